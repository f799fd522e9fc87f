package disk

import (
	"slices"

	"heartwood/api"
)

// Write makes a page be seen as data.
func (d *Disk) Write(no uint32, data string) api.Errno {
	if e := d.ready(); e != api.OK {
		return e
	}
	if !d.has(no) {
		return api.ErrPage
	}
	if len(data) != d.page {
		return api.ErrArg
	}
	e := d.change(waiting{api.Waiting{Act: api.ActWrite, Page: no}, data}, api.ErrIO)
	if e == api.OK {
		d.acts.Writes++
	}
	return e
}

// Grow makes so many pages more be seen.
func (d *Disk) Grow(pages int) api.Errno {
	if e := d.ready(); e != api.OK {
		return e
	}
	if pages < 1 {
		return api.ErrArg
	}
	if pages > d.most-d.size() {
		return api.ErrFull
	}
	e := d.change(waiting{Waiting: api.Waiting{Act: api.ActGrow, Pages: d.size() + pages}}, api.ErrFull)
	if e == api.OK {
		d.acts.Grows++
	}
	return e
}

// change is the act by which a thing comes to wait, and to be seen; refused is what an arm that refuses it answers.
func (d *Disk) change(w waiting, refused api.Errno) api.Errno {
	arm, due := d.count(w.Act)
	if due && !arm.Power {
		return refused
	}
	d.waits = append(d.waits, w)
	if due {
		d.lose(arm.Fates)
		return api.ErrOff
	}
	d.come(w, whole)
	return api.OK
}

// Sync makes durable what is seen.
func (d *Disk) Sync() api.Errno {
	if e := d.ready(); e != api.OK {
		return e
	}
	arm, due := d.count(api.ActSync)
	if due && !arm.Power {
		return api.ErrIO
	}
	if due {
		d.lose(arm.Fates)
		return api.ErrOff
	}
	d.settle(func(int) api.Fate { return whole })
	d.acts.Syncs++
	return api.OK
}

// Acts tells how many acts were answered OK.
func (d *Disk) Acts() api.Acts {
	if !d.there() {
		return api.Acts{}
	}
	return d.acts
}

// Arm puts arms behind those that are there.
func (d *Disk) Arm(arms ...api.Arm) api.Errno {
	if e := d.ready(); e != api.OK {
		return e
	}
	wrong := func(a api.Arm) bool { return a.On > api.ActSync || a.Nth < 1 }
	if slices.ContainsFunc(arms, wrong) {
		return api.ErrArg
	}
	if len(arms) > api.MaxArms-len(d.arms) {
		return api.ErrLong
	}
	for _, a := range arms {
		a.Fates = slices.Clone(a.Fates)
		d.arms = append(d.arms, a)
	}
	return api.OK
}

// Armed tells how many arms are there.
func (d *Disk) Armed() int {
	if !d.there() {
		return 0
	}
	return len(d.arms)
}

// count lets the arms count an act, takes away those that are due at it, and answers the first of them, if there is one.
func (d *Disk) count(act api.Act) (first api.Arm, due bool) {
	for i, a := range d.arms {
		if a.On == act || a.On == api.ActAny {
			d.arms[i].Nth--
		}
	}
	isDue := func(a api.Arm) bool { return a.Nth == 0 }
	at := slices.IndexFunc(d.arms, isDue)
	if at < 0 {
		return api.Arm{}, false
	}
	first = d.arms[at]
	d.arms = slices.DeleteFunc(d.arms, isDue)
	return first, true
}
