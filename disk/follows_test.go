package disk_test

import (
	"fmt"
	"math/rand"
	"slices"
	"strings"
	"testing"

	"heartwood/api"
	"heartwood/disk"
)

// short tells pages by the first byte of each of their sectors.
func short(pages []string) string {
	var b strings.Builder
	for _, p := range pages {
		b.WriteString(fmt.Sprintf(" %d:", len(p)))
		for i := range min(api.Sectors, len(p)) {
			b.WriteString(fmt.Sprintf("%02x", p[i*len(p)/api.Sectors]))
		}
	}
	return "[" + b.String() + " ]"
}

// shown tells what a disk looks like.
func shown(l look) string {
	image, seen := short(l.image), short(l.seen)
	l.image, l.seen = nil, nil
	return fmt.Sprintf("%+v image %s seen %s", l, image, seen)
}

// thing is a write or growth of a model, and what was written.
type thing struct {
	told api.Waiting
	data string
}

// model is a disk of another make: it keeps all acts that there were, and works out from what was done what is there.
type model struct {
	page, most int
	durable    []string
	things     []thing
	arms       []api.Arm
	born       []int // of each arm, how many acts there were ahead of it
	history    []api.Act
	acts       api.Acts
	off        bool
	life       int
	taken      int
}

func (m *model) fork() *model {
	f := *m
	f.durable, f.things, f.arms = slices.Clone(m.durable), slices.Clone(m.things), slices.Clone(m.arms)
	f.born, f.history = slices.Clone(m.born), slices.Clone(m.history)
	return &f
}

// seen answers the durable pages with what waits laid over.
func (m *model) seen() []string {
	l := slices.Clone(m.durable)
	for _, x := range m.things {
		if x.told.Act == api.ActWrite {
			l[x.told.Page] = x.data
		}
		for len(l) < x.told.Pages {
			l = append(l, zeros(m.page))
		}
	}
	return l
}

func (m *model) look() look {
	l := look{page: m.page, most: m.most, size: len(m.seen()), armed: len(m.arms), life: m.life, taken: m.taken, on: !m.off, acts: m.acts}
	l.image = append(l.image, m.durable...)
	for _, x := range m.things {
		l.waits = append(l.waits, x.told)
	}
	if l.on {
		l.seen = append(l.seen, m.seen()...)
	}
	return l
}

// lose works out the image sector by sector, from the last write back, as P4.9 says it.
func (m *model) lose(fates []api.Fate) {
	size := len(m.durable)
	for i, x := range m.things {
		if i < len(fates) && fates[i] != 0 && x.told.Act == api.ActWrite {
			size = max(size, int(x.told.Page)+1)
		}
		if i < len(fates) && fates[i] != 0 {
			size = max(size, x.told.Pages)
		}
	}
	image, sector := make([]string, size), m.page/8
	for no := range image {
		for s := range 8 {
			from := zeros(m.page)
			if no < len(m.durable) {
				from = m.durable[no]
			}
			for i := len(m.things) - 1; i >= 0; i-- {
				x := m.things[i]
				if x.told.Act == api.ActWrite && int(x.told.Page) == no && i < len(fates) && int(fates[i])/(1<<s)%2 == 1 {
					from = x.data
					break
				}
			}
			image[no] += from[s*sector : (s+1)*sector]
		}
	}
	m.durable, m.things, m.arms, m.born, m.off = image, nil, nil, nil, true
	m.taken++
}

// act tells what the arms make of an act: 0 nothing, 1 a refusal, 2 a loss of power with these fates.
func (m *model) act(act api.Act) (what int, fates []api.Fate) {
	m.history = append(m.history, act)
	var arms []api.Arm
	var born []int
	for i, a := range m.arms {
		n := 0
		for _, h := range m.history[m.born[i]:] {
			if a.On == h || a.On == api.ActAny {
				n++
			}
		}
		if n < a.Nth {
			arms, born = append(arms, a), append(born, m.born[i])
		} else if what == 0 && a.Power {
			what, fates = 2, a.Fates
		} else if what == 0 {
			what = 1
		}
	}
	m.arms, m.born = arms, born
	return what, fates
}

// wait lets a thing wait, if its act goes well or the power goes in it; count is what counts it then.
func (m *model) wait(x thing, refused api.Errno, count *int) api.Errno {
	what, fates := m.act(x.told.Act)
	if what == 1 {
		return refused
	}
	m.things = append(m.things, x)
	if what == 2 {
		m.lose(fates)
		return api.ErrOff
	}
	*count++
	return api.OK
}

func (m *model) write(no uint32, data string) api.Errno {
	switch {
	case m.off:
		return api.ErrOff
	case int(no) >= len(m.seen()):
		return api.ErrPage
	case len(data) != m.page:
		return api.ErrArg
	}
	return m.wait(thing{api.Waiting{Act: api.ActWrite, Page: no}, data}, api.ErrIO, &m.acts.Writes)
}

func (m *model) grow(n int) api.Errno {
	size := len(m.seen())
	switch {
	case m.off:
		return api.ErrOff
	case n < 1:
		return api.ErrArg
	case size+n > m.most:
		return api.ErrFull
	}
	return m.wait(thing{told: api.Waiting{Act: api.ActGrow, Pages: size + n}}, api.ErrFull, &m.acts.Grows)
}

func (m *model) sync() api.Errno {
	if m.off {
		return api.ErrOff
	}
	what, fates := m.act(api.ActSync)
	switch what {
	case 1:
		return api.ErrIO
	case 2:
		m.lose(fates)
		return api.ErrOff
	}
	m.durable, m.things = m.seen(), nil
	m.acts.Syncs++
	return api.OK
}

func (m *model) arm(arms []api.Arm) api.Errno {
	if m.off {
		return api.ErrOff
	}
	for _, a := range arms {
		if a.On > 3 || a.Nth < 1 {
			return api.ErrArg
		}
	}
	if len(m.arms)+len(arms) > 64 {
		return api.ErrLong
	}
	for _, a := range arms {
		m.arms, m.born = append(m.arms, a), append(m.born, len(m.history))
	}
	return api.OK
}

func (m *model) power(on bool, fates []api.Fate) api.Errno {
	switch {
	case on && !m.off:
		return api.ErrOn
	case on:
		m.off = false
		m.life++
	case m.off:
		return api.ErrOff
	default:
		m.lose(fates)
	}
	return api.OK
}

// call is one call, on a disk and on a model.
type call struct {
	name  string
	disk  func(d *disk.Disk) api.Errno
	model func(m *model) api.Errno
}

// someFates answers fates at random, the edges among them.
func someFates(r *rand.Rand) []api.Fate {
	l := make([]api.Fate, r.Intn(7))
	for i := range l {
		switch r.Intn(4) {
		case 0:
			l[i] = 255
		case 1:
			l[i] = 1 << r.Intn(8)
		case 2:
			l[i] = api.Fate(r.Intn(256))
		}
	}
	return l
}

// someArms answers arms at random, now and then ones that may not be.
func someArms(r *rand.Rand) []api.Arm {
	l := make([]api.Arm, r.Intn(4))
	for i := range l {
		l[i] = api.Arm{On: api.Act(r.Intn(4)), Nth: 1 + r.Intn(6), Power: r.Intn(3) == 0, Fates: someFates(r)}
	}
	if len(l) > 0 && r.Intn(12) == 0 {
		l[r.Intn(len(l))] = api.Arm{On: api.Act(r.Intn(6)), Nth: r.Intn(3) - 1}
	}
	return l
}

// someCall answers a call at random.
func someCall(r *rand.Rand, page int) call {
	fates := someFates(r)
	switch k := r.Intn(20); {
	case k < 8:
		no, data := uint32(r.Intn(5)), mixed(page, r.Intn(30))
		if r.Intn(20) == 0 {
			data = data[1:]
		}
		return call{fmt.Sprint("write ", no), func(d *disk.Disk) api.Errno { return d.Write(no, data) }, func(m *model) api.Errno { return m.write(no, data) }}
	case k < 11:
		n := r.Intn(4)
		return call{fmt.Sprint("grow ", n), func(d *disk.Disk) api.Errno { return d.Grow(n) }, func(m *model) api.Errno { return m.grow(n) }}
	case k < 13:
		return call{"sync", (*disk.Disk).Sync, (*model).sync}
	case k < 15:
		arms := someArms(r)
		return call{fmt.Sprint("arm ", arms), func(d *disk.Disk) api.Errno { return d.Arm(arms...) }, func(m *model) api.Errno { return m.arm(arms) }}
	case k < 16:
		return call{fmt.Sprint("crash ", fates), func(d *disk.Disk) api.Errno { return d.Crash(fates...) }, func(m *model) api.Errno { return m.power(false, fates) }}
	case k < 19:
		return call{"wake", (*disk.Disk).Wake, func(m *model) api.Errno { return m.power(true, nil) }}
	}
	return call{"take", func(d *disk.Disk) api.Errno { _, e := d.Take(); return e }, func(m *model) api.Errno {
		if m.off {
			return api.ErrOff
		}
		m.taken++
		return api.OK
	}}
}

// begun answers a disk with some pages, and a model of it.
func begun(t *testing.T, r *rand.Rand, page int) (*disk.Disk, *model) {
	most := 1 + r.Intn(5)
	var image []string
	for i := range r.Intn(most + 1) {
		image = append(image, mixed(page, 30-i))
	}
	return made(t, page, most, image...), &model{page: page, most: most, durable: image}
}

// P4.1 to P4.7 in scripts of all calls, over and over; now and then a fork goes on apart from its disk, by calls of its own.
func TestScripts(t *testing.T) {
	for seed := range 400 {
		r := rand.New(rand.NewSource(int64(seed)))
		page := sizes()[seed%4]
		d, m := begun(t, r, page)
		disks, models := []*disk.Disk{d}, []*model{m}
		for step := range 80 {
			at := r.Intn(len(disks))
			if r.Intn(15) == 0 && len(disks) < 4 {
				disks, models = append(disks, disks[at].Fork()), append(models, models[at].fork())
			}
			c := someCall(r, page)
			got, want := c.disk(disks[at]), c.model(models[at])
			if got != want {
				t.Fatalf("seed %d, step %d, %s: %v, and not %v", seed, step, c.name, got, want)
			}
			for i, d := range disks {
				holds(t, d, models[i].look())
			}
		}
	}
}

// P4.8: what was synced is there behind any loss of power, but for sectors of pages that were written to since.
func TestSyncedIsSafe(t *testing.T) {
	for seed := range 200 {
		r := rand.New(rand.NewSource(int64(seed)))
		page := sizes()[seed%4]
		d := made(t, page, 9)
		d.Grow(1 + r.Intn(6))
		synced := d.Image()
		for range 4 {
			for no := range d.Size() {
				if r.Intn(2) == 0 {
					d.Write(uint32(no), mixed(page, r.Intn(30)))
				}
			}
			if d.Sync() == api.OK {
				synced = d.Image()
			}
			written := map[int]int{}
			for range r.Intn(6) {
				no := r.Intn(9)
				if d.Write(uint32(no), mixed(page, r.Intn(30))) == api.OK {
					written[no]++
				}
				if r.Intn(4) == 0 {
					d.Grow(1)
				}
			}
			fates := someFates(r)
			switch r.Intn(3) {
			case 0:
				d.Crash(fates...)
			case 1:
				d.Arm(api.Arm{On: api.ActSync, Nth: 1, Power: true, Fates: fates})
				d.Sync()
			default:
				written[0]++
				d.Arm(api.Arm{On: api.ActWrite, Nth: 1, Power: true, Fates: fates})
				d.Write(0, mixed(page, r.Intn(30)))
			}
			image := d.Image()
			if len(image) < len(synced) || d.On() {
				t.Fatalf("seed %d: %d pages of %d", seed, len(image), len(synced))
			}
			for no, was := range synced {
				if written[no] == 0 && image[no] != was {
					t.Fatalf("seed %d: page %d was %s, is %s", seed, no, short([]string{was}), short(image[no:no+1]))
				}
			}
			d.Wake()
			synced = d.Image()
		}
	}
}

// P4.9: all fates 255 are as a Sync, all fates 0 leave the image; else each sector is that of one thing, whole.
func TestSectorsAreWhole(t *testing.T) {
	for seed := range 200 {
		r := rand.New(rand.NewSource(int64(seed)))
		page := sizes()[seed%4]
		d, _ := begun(t, r, page)
		for step := range 12 {
			if c := someCall(r, page); c.name == "wake" || strings.HasPrefix(c.name, "write") || strings.HasPrefix(c.name, "grow") {
				c.disk(d)
			}
			n := len(d.Waits())
			all, none, synced := d.Fork(), d.Fork(), d.Fork()
			answers(t, "losses and a sync", []api.Errno{all.Crash(slices.Repeat([]api.Fate{255}, n)...), none.Crash(make([]api.Fate, n)...), synced.Sync()}, api.OK, api.OK, api.OK)
			same(t, "all has come", all.Image(), synced.Image()...)
			same(t, "nothing has come", none.Image(), d.Image()...)
			some := d.Fork()
			some.Crash(someFates(r)...)
			for no, got := range some.Image() {
				for s := range api.Sectors {
					if part := got[s*page/8 : (s+1)*page/8]; strings.Count(part, part[:1]) != len(part) {
						t.Fatalf("seed %d, step %d: sector %d of page %d is torn", seed, step, s, no)
					}
				}
			}
		}
	}
}

// P4.10: reads, looks and refused calls change nothing that can be seen, nor what comes of later calls.
func TestLooksChangeNothing(t *testing.T) {
	for seed := range 200 {
		r := rand.New(rand.NewSource(int64(seed)))
		page := sizes()[seed%4]
		d, _ := begun(t, r, page)
		for range r.Intn(20) {
			someCall(r, page).disk(d)
		}
		quiet, before := d.Fork(), looks(t, d)
		for range 3 {
			d.Read(uint32(r.Intn(9)))
			d.Write(9, zeros(page))
			d.Write(0, "a")
			d.Grow(0)
			d.Grow(9)
			d.Arm(api.Arm{On: 9, Nth: 1})
			d.Arm(api.Arm{Nth: 1}, api.Arm{})
			d.Arm(slices.Repeat([]api.Arm{{Nth: 1}}, 65)...)
			d.Fork().Crash(255)
			if d.On() {
				d.Wake()
			} else {
				d.Take()
				d.Sync()
				d.Crash(255)
			}
			holds(t, d, before)
		}
		for step := range 20 {
			c := someCall(r, page)
			if got, want := c.disk(d), c.disk(quiet); got != want {
				t.Fatalf("seed %d, step %d, %s: %v, and %v of one that was let alone", seed, step, c.name, got, want)
			}
			holds(t, d, looks(t, quiet))
		}
	}
}

// A fork has what waits, the arms and what they have counted, and all numbers; then each of the two goes on by itself.
func TestForkGoesOnApart(t *testing.T) {
	a, b, c := mixed(1024, 1), mixed(1024, 2), mixed(1024, 3)
	begin := func() *disk.Disk {
		d := made(t, 1024, 6, a, a)
		d.Crash()
		d.Wake()
		d.Take()
		d.Grow(1)
		d.Write(0, b)
		d.Sync()
		d.Write(1, c)
		d.Grow(1)
		d.Arm(api.Arm{On: api.ActSync, Nth: 2}, api.Arm{On: api.ActWrite, Nth: 4, Power: true, Fates: []api.Fate{1, 255, 3}}, api.Arm{Nth: 9})
		d.Sync()
		d.Write(2, a)
		return d
	}
	changes := []func(d *disk.Disk){
		func(d *disk.Disk) { d.Write(0, c) },
		func(d *disk.Disk) { d.Grow(2) },
		func(d *disk.Disk) { d.Sync() },
		func(d *disk.Disk) { d.Sync(); d.Sync(); d.Sync() },
		func(d *disk.Disk) { d.Arm(api.Arm{Nth: 1}); d.Sync() },
		func(d *disk.Disk) { d.Take() },
		func(d *disk.Disk) { d.Crash(255) },
		func(d *disk.Disk) { d.Crash(255, 255); d.Wake(); d.Grow(1); d.Sync() },
		func(d *disk.Disk) { d.Write(0, c); d.Write(1, c); d.Write(2, c); d.Write(3, c) },
	}
	for i, change := range changes {
		for _, rest := range changes {
			d, alone := begin(), begin()
			f := d.Fork()
			whole := looks(t, d)
			holds(t, f, whole)
			change(d)
			changed := looks(t, d)
			holds(t, f, whole)
			rest(f)
			rest(alone)
			holds(t, f, looks(t, alone))
			holds(t, d, changed)

			d, alone = begin(), begin()
			f = d.Fork()
			change(f)
			changed = looks(t, f)
			holds(t, d, whole)
			rest(d)
			rest(alone)
			holds(t, d, looks(t, alone))
			holds(t, f, changed)
			if t.Failed() {
				t.Fatalf("change %d", i)
			}
		}
	}
	off := begin()
	off.Crash(255, 255)
	f := off.Fork()
	holds(t, f, looks(t, off))
	if f.Wake() != api.OK || off.On() || off.Life() != 1 || f.Life() != 2 {
		t.Error("a fork of a disk that is off")
	}
}
