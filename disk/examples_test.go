package disk_test

import (
	"testing"

	"heartwood/api"
	"heartwood/disk"
)

// The chapter's table, row by row; a and b are its A and B, nought its 0.
func TestExamples(t *testing.T) {
	a, b, nought := full(1024, "a"), full(1024, "b"), zeros(1024)
	_, e1 := disk.New(1000, 4)
	_, e2 := disk.New(1024, 0)
	_, e3 := disk.New(1024, 65537)
	_, e4 := disk.From(1024, 1, []string{a, b})
	_, e5 := disk.From(1024, 9, []string{"a"})
	answers(t, "1", []api.Errno{e1, e2, e3, e4, e5}, api.ErrArg, api.ErrArg, api.ErrArg, api.ErrImage, api.ErrImage)

	d := made(t, 1024, 4)
	if _, e := d.Read(0); d.Size() != 0 || e != api.ErrPage || d.Grow(2) != api.OK || d.Size() != 2 || d.Grow(3) != api.ErrFull || d.Grow(0) != api.ErrArg {
		t.Error("2")
	}
	answers(t, "3", []api.Errno{d.Write(0, a), d.Write(2, a), d.Write(1, "a")}, api.OK, api.ErrPage, api.ErrArg)
	holds(t, d, look{page: 1024, most: 4, size: 2, on: true, seen: []string{a, nought}, acts: api.Acts{Writes: 1, Grows: 1},
		waits: []api.Waiting{{Act: api.ActGrow, Pages: 2}, {Act: api.ActWrite, Page: 0}}})

	d = made(t, 1024, 4)
	answers(t, "4", []api.Errno{d.Grow(1), d.Write(0, a), d.Crash()}, api.OK, api.OK, api.OK)
	same(t, "4", d.Image())
	if d.Wake() != api.OK || d.Size() != 0 {
		t.Error("4")
	}
	d = made(t, 1024, 4, nought)
	answers(t, "5", []api.Errno{d.Write(0, a), d.Write(0, b), d.Crash(3, 1)}, api.OK, api.OK, api.OK)
	same(t, "5", d.Image(), b[:128]+a[:128]+nought[:768])
	d = made(t, 1024, 4)
	answers(t, "6", []api.Errno{d.Grow(2), d.Write(1, a), d.Crash(0, 128)}, api.OK, api.OK, api.OK)
	same(t, "6", d.Image(), nought, nought[:896]+a[:128])
	d = made(t, 1024, 4, nought)
	answers(t, "7", []api.Errno{d.Arm(api.Arm{On: api.ActSync, Nth: 1}), d.Write(0, a), d.Sync()}, api.OK, api.OK, api.ErrIO)
	if s, e := d.Read(0); s != a || e != api.OK {
		t.Error("7")
	}
	answers(t, "7", []api.Errno{d.Sync(), d.Crash()}, api.OK, api.OK)
	same(t, "7", d.Image(), a)
	d = made(t, 1024, 4)
	answers(t, "8", []api.Errno{d.Arm(api.Arm{On: api.ActAny, Nth: 2, Power: true, Fates: []api.Fate{255, 255}}), d.Grow(1), d.Write(0, a)}, api.OK, api.OK, api.ErrOff)
	if d.On() {
		t.Error("8")
	}
	same(t, "8", d.Image(), a)
	if _, e := d.Read(0); e != api.ErrOff || d.Armed() != 0 {
		t.Error("9")
	}
	answers(t, "9", []api.Errno{d.Sync(), d.Wake(), d.Wake()}, api.ErrOff, api.OK, api.ErrOn)
	if d.Life() != 1 || d.Taken() != 1 {
		t.Error("9")
	}
	d = made(t, 1024, 4, nought)
	answers(t, "10", []api.Errno{d.Arm(api.Arm{On: api.ActWrite, Nth: 2}, api.Arm{On: api.ActWrite, Nth: 2, Power: true}), d.Write(0, a), d.Write(0, b)}, api.OK, api.OK, api.ErrIO)
	if d.Armed() != 0 || d.Write(0, b) != api.OK {
		t.Error("10")
	}
}
