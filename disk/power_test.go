package disk_test

import (
	"slices"
	"testing"

	"heartwood/api"
)

// picked answers a page whose sectors in the mask are those of over, the others those of under.
func picked(under, over string, mask api.Fate) string {
	sector := len(under) / api.Sectors
	s := ""
	for i := range api.Sectors {
		from := under
		if mask>>i&1 == 1 {
			from = over
		}
		s += from[i*sector : (i+1)*sector]
	}
	return s
}

// Each mask of sectors, on each size of pages: of a page that the image has, and of one that it has not.
func TestFatesOfAWrite(t *testing.T) {
	for _, size := range sizes() {
		a, b, z := mixed(size, 1), mixed(size, 2), zeros(size)
		for f := range 256 {
			fate := api.Fate(f)
			d := made(t, size, 5, z, a)
			answers(t, "acts", []api.Errno{d.Write(1, b), d.Crash(fate)}, api.OK, api.OK)
			same(t, "a page that is there", d.Image(), z, picked(a, b, fate))

			d = made(t, size, 5, a)
			answers(t, "acts", []api.Errno{d.Grow(4), d.Write(2, b), d.Crash(0, fate)}, api.OK, api.OK, api.OK)
			if f == 0 {
				same(t, "nothing has come", d.Image(), a)
			} else {
				same(t, "a page that is not there", d.Image(), a, z, picked(z, b, fate))
			}
		}
		for s := range api.Sectors {
			d := made(t, size, 5, a)
			answers(t, "acts", []api.Errno{d.Write(0, b), d.Crash(1 << s)}, api.OK, api.OK)
			got, sector := d.Image()[0], size/8
			if got[s*sector:(s+1)*sector] != b[s*sector:(s+1)*sector] || got[:s*sector] != a[:s*sector] || got[(s+1)*sector:] != a[(s+1)*sector:] {
				t.Errorf("sector %d of pages of %d bytes", s, size)
			}
		}
	}
}

// A growth comes whole, or not at all; one behind another brings what the other one did not.
func TestFatesOfAGrowth(t *testing.T) {
	a, z := mixed(1024, 1), zeros(1024)
	for f := range 256 {
		d := made(t, 1024, 9, a)
		answers(t, "acts", []api.Errno{d.Grow(2), d.Crash(api.Fate(f))}, api.OK, api.OK)
		if f == 0 {
			same(t, "lost", d.Image(), a)
		} else {
			same(t, "come", d.Image(), a, z, z)
		}
	}
	for _, x := range []struct {
		fates []api.Fate
		want  []string
	}{
		{nil, []string{a}}, {[]api.Fate{1}, []string{a, z}}, {[]api.Fate{0, 1}, []string{a, z, z, z}}, {[]api.Fate{9, 1}, []string{a, z, z, z}},
		{[]api.Fate{0, 0, 0, 1}, []string{a, z, z, z, z}}, {[]api.Fate{1, 0, 1}, []string{a, z, picked(z, a, 1)}}, {[]api.Fate{0, 1, 2}, []string{a, z, picked(z, a, 2), z}},
		{[]api.Fate{0, 0, 4}, []string{a, z, picked(z, a, 4)}}, {[]api.Fate{0, 0, 8, 16}, []string{a, z, picked(z, a, 8), z, z}},
	} {
		d := made(t, 1024, 9, a)
		answers(t, "acts", []api.Errno{d.Grow(1), d.Grow(2), d.Write(2, a), d.Grow(1), d.Crash(x.fates...)}, api.OK, api.OK, api.OK, api.OK, api.OK)
		same(t, "growths", d.Image(), x.want...)
	}
}

// Fates that are wanting are 0, and those that are over count for nothing, later neither.
func TestFewerAndMoreFates(t *testing.T) {
	a, b, z := full(1024, "a"), full(1024, "b"), zeros(1024)
	for _, x := range []struct {
		fates []api.Fate
		want  string
	}{
		{nil, z}, {[]api.Fate{255}, a}, {[]api.Fate{255, 255}, b}, {[]api.Fate{0, 255}, b}, {[]api.Fate{0, 0, 255}, z}, {[]api.Fate{255, 0, 255, 255}, a},
		{[]api.Fate{15, 24}, picked(picked(z, a, 15), b, 24)}, {[]api.Fate{24, 15, 3}, picked(picked(z, a, 24), b, 15)}, {slices.Repeat([]api.Fate{255}, 999), b},
	} {
		d := made(t, 1024, 9, z)
		answers(t, "acts", []api.Errno{d.Write(0, a), d.Write(0, b), d.Crash(x.fates...), d.Wake()}, api.OK, api.OK, api.OK, api.OK)
		same(t, "the image", d.Image(), x.want)
		answers(t, "a second loss", []api.Errno{d.Write(0, z), d.Crash()}, api.OK, api.OK)
		same(t, "the image then", d.Image(), x.want)
	}
	d := made(t, 1024, 9, z)
	answers(t, "nothing waits", []api.Errno{d.Crash(255, 255), d.Wake(), d.Write(0, a), d.Sync(), d.Crash(1, 1)}, api.OK, api.OK, api.OK, api.OK, api.OK)
	same(t, "what was synced waits no more", d.Image(), a)
}

// The power goes in a write, a growth and a sync: the first two wait as the last.
func TestPowerGoesInAnAct(t *testing.T) {
	a, b, z := mixed(1024, 1), mixed(1024, 2), zeros(1024)
	w := full(1024, "w")
	for _, x := range []struct {
		act   api.Act
		fates []api.Fate
		want  []string
	}{
		{api.ActWrite, nil, []string{a}},
		{api.ActWrite, []api.Fate{0, 0, 7}, []string{picked(a, w, 7)}},
		{api.ActWrite, []api.Fate{255, 255, 255}, []string{w, z}},
		{api.ActWrite, []api.Fate{3, 0, 1}, []string{picked(picked(a, b, 3), w, 1)}},
		{api.ActWrite, []api.Fate{0, 0, 0, 255}, []string{a}},
		{api.ActGrow, nil, []string{a}},
		{api.ActGrow, []api.Fate{0, 0, 1}, []string{a, z, z}},
		{api.ActGrow, []api.Fate{255, 1, 0}, []string{b, z}},
		{api.ActSync, nil, []string{a}},
		{api.ActSync, []api.Fate{6, 128}, []string{picked(a, b, 6), z}},
		{api.ActSync, []api.Fate{255, 255, 255}, []string{b, z}},
		{api.ActSync, []api.Fate{0, 0, 255}, []string{a}},
	} {
		for _, on := range []api.Act{x.act, api.ActAny} {
			d := made(t, 1024, 9, a)
			answers(t, "acts", []api.Errno{d.Write(0, b), d.Grow(1), d.Arm(api.Arm{On: on, Nth: 1, Power: true, Fates: x.fates}, api.Arm{Nth: 99}), deed(d, x.act)}, api.OK, api.OK, api.OK, api.ErrOff)
			want := look{page: 1024, most: 9, size: len(x.want), taken: 1, image: x.want, acts: api.Acts{Writes: 1, Grows: 1}}
			holds(t, d, want)
			answers(t, "wake", []api.Errno{d.Wake()}, api.OK)
			want.on, want.life, want.seen = true, 1, x.want
			holds(t, d, want)
		}
	}
}

// While the power is off the image is looked at, and nothing else is to be had.
func TestOff(t *testing.T) {
	a, b := mixed(4096, 1), mixed(4096, 2)
	d := made(t, 4096, 5, a, a)
	answers(t, "acts", []api.Errno{d.Write(0, b), d.Grow(3), d.Arm(api.Arm{Nth: 5}), d.Wake(), d.Crash(255)}, api.OK, api.OK, api.OK, api.ErrOn, api.OK)
	want := look{page: 4096, most: 5, size: 2, taken: 1, image: []string{b, a}, acts: api.Acts{Writes: 1, Grows: 1}}
	for range 2 {
		_, read := d.Read(0)
		_, none := d.Read(9)
		n, take := d.Take()
		if n != 0 {
			t.Errorf("a number beside an error: %d", n)
		}
		codes := []api.Errno{read, none, take, d.Write(0, a), d.Write(9, a), d.Write(0, "a"), d.Grow(1), d.Grow(0), d.Grow(9), d.Sync(), d.Arm(), d.Arm(api.Arm{}), d.Arm(make([]api.Arm, 65)...), d.Crash(), d.Crash(1, 2)}
		answers(t, "off", codes, slices.Repeat([]api.Errno{api.ErrOff}, len(codes))...)
		holds(t, d, want)
	}
	answers(t, "on again", []api.Errno{d.Wake(), d.Wake()}, api.OK, api.ErrOn)
	want.on, want.life, want.seen = true, 1, want.image
	holds(t, d, want)
	answers(t, "the old arm is gone", []api.Errno{d.Sync(), d.Sync(), d.Sync(), d.Sync(), d.Sync(), d.Sync()}, slices.Repeat([]api.Errno{api.OK}, 6)...)
}

func TestNumbers(t *testing.T) {
	d := made(t, 1024, 9, zeros(1024))
	taken := func(want int) {
		t.Helper()
		if n, e := d.Take(); n != want || e != api.OK || d.Taken() != want {
			t.Errorf("taken as %d, %v, and not %d", n, e, want)
		}
	}
	for i := range 5 {
		if d.Life() != i || d.Taken() != 4*i {
			t.Errorf("life %d, number %d, at %d", d.Life(), d.Taken(), i)
		}
		taken(4*i + 1)
		taken(4*i + 2)
		taken(4*i + 3)
		if i%2 == 0 {
			d.Crash()
		} else {
			d.Arm(api.Arm{Nth: 1, Power: true})
			d.Sync()
		}
		if d.Taken() != 4*i+4 || d.Life() != i || d.On() || d.Crash() != api.ErrOff || d.Taken() != 4*i+4 {
			t.Errorf("life %d, number %d, off at %d", d.Life(), d.Taken(), i)
		}
		if d.Wake() != api.OK || d.Wake() != api.ErrOn {
			t.Error("no wake")
		}
	}
}
