package disk_test

import (
	"math"
	"reflect"
	"slices"
	"strings"
	"testing"

	"heartwood/api"
	"heartwood/disk"
)

// sizes are the four that a page may have.
func sizes() []int { return []int{1024, 2048, 4096, 8192} }

// full answers a page of one byte.
func full(size int, c string) string { return strings.Repeat(c, size) }

// zeros answers a page of bytes 0.
func zeros(size int) string { return full(size, "\x00") }

// mixed answers a page no two sectors of which are alike, and none of them that of another seed.
func mixed(size, seed int) string {
	b := make([]byte, size)
	for i := range b {
		b[i] = byte(1 + (seed*8+i/(size/8))%255)
	}
	return string(b)
}

// made answers a new disk with that image.
func made(t *testing.T, size, most int, image ...string) *disk.Disk {
	t.Helper()
	d, e := disk.From(size, most, image)
	if e != api.OK || d == nil {
		t.Fatalf("From(%d, %d, %d pages): %v", size, most, len(image), e)
	}
	return d
}

// look is all that can be looked at.
type look struct {
	page, most, size, armed, life, taken int
	on                                   bool
	waits                                []api.Waiting
	image, seen                          []string
	acts                                 api.Acts
}

// looks answers all that can be seen of a disk; of what is off the pages that are seen are not told.
func looks(t *testing.T, d *disk.Disk) look {
	t.Helper()
	l := look{page: d.Page(), most: d.Most(), size: d.Size(), armed: d.Armed(), life: d.Life(), taken: d.Taken(), on: d.On(), acts: d.Acts()}
	l.waits = append(l.waits, d.Waits()...)
	l.image = append(l.image, d.Image()...)
	for no := range l.size {
		s, e := d.Read(uint32(no))
		if l.on && e != api.OK || !l.on && (e != api.ErrOff || s != "") {
			t.Fatalf("Read(%d), on is %t: %v", no, l.on, e)
		}
		if l.on {
			l.seen = append(l.seen, s)
		}
	}
	return l
}

// holds complains, if a disk does not look so.
func holds(t *testing.T, d *disk.Disk, want look) {
	t.Helper()
	if got := looks(t, d); !reflect.DeepEqual(got, want) {
		t.Fatalf("it is %s\nand should be %s", shown(got), shown(want))
	}
}

// same complains, if a list of pages is another one.
func same(t *testing.T, what string, got []string, want ...string) {
	t.Helper()
	if !slices.Equal(got, want) {
		t.Errorf("%s: %s, and not %s", what, short(got), short(want))
	}
}

// answers complains, if one of the errors is another one.
func answers(t *testing.T, what string, got []api.Errno, want ...api.Errno) {
	t.Helper()
	if !slices.Equal(got, want) {
		t.Errorf("%s: %v, and not %v", what, got, want)
	}
}

// ends are numbers that may not be of anything.
func ends() []int { return []int{math.MinInt, math.MinInt32, -1, 0} }

func TestRefusedMakes(t *testing.T) {
	refused := func(page, most int, image []string, want api.Errno) {
		t.Helper()
		if d, e := disk.From(page, most, image); d != nil || e != want {
			t.Errorf("From(%d, %d, %d pages): %v, and not %v", page, most, len(image), e, want)
		}
		if d, e := disk.New(page, most); want == api.ErrArg && (d != nil || e != want) {
			t.Errorf("New(%d, %d): %v", page, most, e)
		}
	}
	for _, page := range append(ends(), 1, 8, 512, 1000, 1023, 1025, 1536, 3072, 8191, 8193, 16384, 65536, math.MaxInt) {
		refused(page, 4, nil, api.ErrArg)
		refused(page, 4, []string{full(1024, "a")}, api.ErrArg)
		refused(page, 1, []string{"a", "a"}, api.ErrArg)
	}
	for _, size := range sizes() {
		for _, most := range append(ends(), api.MaxPages+1, math.MaxInt32, math.MaxInt) {
			refused(size, most, nil, api.ErrArg)
			refused(size, most, []string{"a"}, api.ErrArg)
		}
		good := mixed(size, 1)
		for most := 1; most < 4; most++ {
			refused(size, most, slices.Repeat([]string{good}, most+1), api.ErrImage)
		}
		for _, bad := range []string{"", "a", good[1:], good + "a", good[:size/2], good + good} {
			refused(size, 3, []string{bad}, api.ErrImage)
			refused(size, 3, []string{bad, good, good}, api.ErrImage)
			refused(size, 3, []string{good, bad, good}, api.ErrImage)
			refused(size, 3, []string{good, good, bad}, api.ErrImage)
		}
	}
}

func TestMakes(t *testing.T) {
	for _, size := range sizes() {
		for _, most := range []int{1, 2, 8, api.MaxPages - 1, api.MaxPages} {
			d, e := disk.New(size, most)
			if e != api.OK {
				t.Fatalf("New(%d, %d): %v", size, most, e)
			}
			blank := look{page: size, most: most, on: true}
			holds(t, d, blank)
			holds(t, made(t, size, most), blank)
			holds(t, made(t, size, most, []string{}...), blank)
			image := []string{mixed(size, 1)}
			holds(t, made(t, size, most, image...), look{page: size, most: most, size: 1, on: true, image: image, seen: image})
		}
		image := []string{mixed(size, 1), zeros(size), mixed(size, 2)}
		holds(t, made(t, size, 3, image...), look{page: size, most: 3, size: 3, on: true, image: image, seen: image})
	}
}

// What is handed in may be written over, and what is answered, too.
func TestMemoryOfItsOwn(t *testing.T) {
	a, b, c := mixed(1024, 1), mixed(1024, 2), mixed(1024, 3)
	room := []string{a, b, c, c}
	d, e := disk.From(1024, 9, room[:2])
	if e != api.OK {
		t.Fatal(e)
	}
	answers(t, "acts", []api.Errno{d.Grow(2), d.Write(1, c), d.Sync(), d.Write(0, b), d.Grow(1)}, api.OK, api.OK, api.OK, api.OK, api.OK)
	same(t, "what was handed in", room, a, b, c, c)
	before := looks(t, d)
	clear(room)
	clear(d.Image())
	clear(d.Waits())
	for _, l := range [][]string{d.Image(), d.Image()} {
		_ = append(l[:1], "x", "y")
	}
	_ = append(d.Waits()[:1], api.Waiting{})
	holds(t, d, before)
	if d.Crash() != api.OK {
		t.Error("no crash")
	}
	clear(d.Image())
	_ = append(d.Image()[:0], "x")
	if d.Wake() != api.OK {
		t.Error("no wake")
	}
	same(t, "the image", d.Image(), a, c, zeros(1024), zeros(1024))
	if s, e := d.Read(0); s != a || e != api.OK {
		t.Error("what is seen behind a loss of power hangs on what was told", e)
	}
}

func TestReadWriteGrowSync(t *testing.T) {
	for _, size := range sizes() {
		a, b, c := mixed(size, 1), mixed(size, 2), mixed(size, 3)
		d := made(t, size, 3, a)
		want := look{page: size, most: 3, size: 1, on: true, image: []string{a}, seen: []string{a}}
		step := func(what string, got api.Errno, change func()) {
			t.Helper()
			if got != api.OK {
				t.Errorf("%s: %v", what, got)
			}
			change()
			holds(t, d, want)
		}
		step("a write", d.Write(0, b), func() {
			want.seen, want.waits, want.acts.Writes = []string{b}, []api.Waiting{{Act: api.ActWrite}}, 1
		})
		step("a growth", d.Grow(2), func() {
			want.seen, want.size, want.acts.Grows = []string{b, zeros(size), zeros(size)}, 3, 1
			want.waits = append(want.waits, api.Waiting{Act: api.ActGrow, Pages: 3})
		})
		step("a write behind it", d.Write(2, c), func() {
			want.seen[2], want.acts.Writes = c, 2
			want.waits = append(want.waits, api.Waiting{Act: api.ActWrite, Page: 2})
		})
		step("the same page again", d.Write(2, a), func() {
			want.seen[2], want.acts.Writes = a, 3
			want.waits = append(want.waits, api.Waiting{Act: api.ActWrite, Page: 2})
		})
		step("a sync", d.Sync(), func() {
			want.image, want.waits, want.acts.Syncs = slices.Clone(want.seen), nil, 1
		})
		step("a sync of nothing", d.Sync(), func() { want.acts.Syncs = 2 })
		step("what is there already", d.Write(0, b), func() {
			want.waits, want.acts.Writes = []api.Waiting{{Act: api.ActWrite}}, 4
		})
	}
}

// The calls that are refused for themselves change nothing, and count nothing.
func TestRefusedCalls(t *testing.T) {
	for _, size := range sizes() {
		a, b := mixed(size, 1), mixed(size, 2)
		d := made(t, size, 3, a, b)
		before := looks(t, d)
		for _, no := range []uint32{2, 3, 65535, 65536, 1 << 31, math.MaxUint32} {
			if s, e := d.Read(no); s != "" || e != api.ErrPage {
				t.Errorf("Read(%d): %v", no, e)
			}
			answers(t, "writes to no page", []api.Errno{d.Write(no, a), d.Write(no, "a"), d.Write(no, "")}, api.ErrPage, api.ErrPage, api.ErrPage)
		}
		for _, bad := range []string{"", "a", a[1:], a + "a", a[:size/8], a + a} {
			answers(t, "data of a wrong length", []api.Errno{d.Write(0, bad), d.Write(1, bad)}, api.ErrArg, api.ErrArg)
		}
		for _, n := range ends() {
			answers(t, "a growth by nothing", []api.Errno{d.Grow(n)}, api.ErrArg)
		}
		for _, n := range []int{2, 3, api.MaxPages, math.MaxInt32, math.MaxInt - 1, math.MaxInt} {
			answers(t, "a growth by too many", []api.Errno{d.Grow(n)}, api.ErrFull)
		}
		holds(t, d, before)
		answers(t, "the last page", []api.Errno{d.Grow(1), d.Grow(1), d.Grow(0), d.Grow(math.MaxInt)}, api.OK, api.ErrFull, api.ErrArg, api.ErrFull)
	}
}

// The growth counts what is seen, durable or not.
func TestMostPages(t *testing.T) {
	for most := 1; most < 5; most++ {
		for at := range most {
			d := made(t, 1024, most)
			for range at {
				answers(t, "a page", []api.Errno{d.Grow(1)}, api.OK)
			}
			answers(t, "one too many, and just enough", []api.Errno{d.Grow(most - at + 1), d.Grow(most - at), d.Grow(1)}, api.ErrFull, api.OK, api.ErrFull)
			if d.Size() != most {
				t.Errorf("%d pages, and not %d", d.Size(), most)
			}
		}
	}
}

func TestGreatestDisk(t *testing.T) {
	for _, size := range sizes() {
		d := made(t, size, api.MaxPages)
		answers(t, "growths", []api.Errno{d.Grow(api.MaxPages + 1), d.Grow(api.MaxPages), d.Grow(1)}, api.ErrFull, api.OK, api.ErrFull)
		a := mixed(size, 1)
		answers(t, "writes", []api.Errno{d.Write(api.MaxPages-1, a), d.Write(api.MaxPages, a), d.Sync()}, api.OK, api.ErrPage, api.OK)
		image := d.Image()
		if len(image) != api.MaxPages || d.Size() != api.MaxPages || image[api.MaxPages-1] != a || image[api.MaxPages-2] != zeros(size) {
			t.Errorf("%d pages", len(image))
		}
		again := made(t, size, api.MaxPages, image...)
		if s, e := again.Read(api.MaxPages - 1); s != a || e != api.OK {
			t.Error(e)
		}
		if _, e := again.Read(api.MaxPages); e != api.ErrPage {
			t.Error(e)
		}
		if x, e := disk.From(size, api.MaxPages, append(image, a)); x != nil || e != api.ErrImage {
			t.Error(e)
		}
		if x, e := disk.From(size, api.MaxPages-1, image); x != nil || e != api.ErrImage {
			t.Error(e)
		}
	}
}

func TestNoDisk(t *testing.T) {
	for _, d := range []*disk.Disk{nil, {}} {
		_, read := d.Read(0)
		_, take := d.Take()
		codes := []api.Errno{read, take, d.Write(0, ""), d.Write(0, zeros(1024)), d.Grow(1), d.Grow(0), d.Sync(), d.Arm(), d.Arm(api.Arm{}), d.Crash(), d.Crash(1), d.Wake()}
		for _, e := range codes {
			if e != api.ErrNil {
				t.Errorf("%v", codes)
			}
		}
		if s, _ := d.Read(0); s != "" {
			t.Errorf("a page of no disk: %q", s)
		}
		if n, _ := d.Take(); n != 0 {
			t.Errorf("a number of no disk: %d", n)
		}
		holds(t, d, look{})
		if d.Image() != nil || d.Waits() != nil || d.Fork() != nil {
			t.Error("lists, or a fork, of no disk")
		}
	}
}
