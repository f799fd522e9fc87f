package disk

import "heartwood/api"

// Crash lets the power go.
func (d *Disk) Crash(fates ...api.Fate) api.Errno {
	if e := d.ready(); e != api.OK {
		return e
	}
	d.lose(fates)
	return api.OK
}

// Wake lets the power come again. (What is seen is the image since it went.)
func (d *Disk) Wake() api.Errno {
	if !d.there() {
		return api.ErrNil
	}
	if !d.off {
		return api.ErrOn
	}
	d.off = false
	d.life++
	return api.OK
}

// On tells whether the power is on.
func (d *Disk) On() bool { return d.there() && !d.off }

// Life tells how often the power came again.
func (d *Disk) Life() int {
	if !d.there() {
		return 0
	}
	return d.life
}

// Waits tells what waits, in order.
func (d *Disk) Waits() []api.Waiting {
	if !d.there() {
		return nil
	}
	var l []api.Waiting
	for _, w := range d.waits {
		l = append(l, w.Waiting)
	}
	return l
}

// lose lets the power go with these fates.
func (d *Disk) lose(fates []api.Fate) {
	d.settle(func(i int) api.Fate {
		if i < len(fates) {
			return fates[i]
		}
		return 0
	})
	d.sheets = d.image.clone()
	d.arms = nil
	d.off = true
	d.taken++
}

// settle does to the image what is left of each thing that waits; then nothing waits.
func (d *Disk) settle(fate func(i int) api.Fate) {
	for i, w := range d.waits {
		d.image.come(w, fate(i))
	}
	d.waits = nil
}
