package tuple_test

import (
	"fmt"
	"math"
	"math/rand"
	"slices"
	"strings"
	"testing"

	"heartwood/api"
	"heartwood/tuple"
)

func null() api.Item              { return api.Item{Kind: api.ItNull} }
func truth(b bool) api.Item       { return api.Item{Kind: api.ItBool, Bool: b} }
func number(n int64) api.Item     { return api.Item{Kind: api.ItInt, Int: n} }
func float(f float64) api.Item    { return api.Item{Kind: api.ItFloat, Float: f} }
func bits(x uint64) api.Item      { return float(math.Float64frombits(x)) }
func text(s string) api.Item      { return api.Item{Kind: api.ItText, Text: s} }
func list(l ...api.Item) api.Item { return api.Item{Kind: api.ItList, List: l} }

const oneNaN = 0x7FF8000000000000

func minusNought() api.Item { return bits(1 << 63) }

// lists answers so many lists, one within the other, and what lies in the innermost.
func lists(n int, inner ...api.Item) api.Item {
	x := list(inner...)
	for range n - 1 {
		x = list(x)
	}
	return x
}

// nulls answers so many of them.
func nulls(n int) []api.Item {
	var l []api.Item
	for range n {
		l = append(l, null())
	}
	return l
}

// shown tells a row so that no two unlike ones are told alike: a float by its bits.
func shown(row ...api.Item) string {
	var b strings.Builder
	for _, x := range row {
		fmt.Fprintf(&b, "{%d %t %d %x %q (%s)}", x.Kind, x.Bool, x.Int, math.Float64bits(x.Float), x.Text, shown(x.List...))
	}
	return b.String()
}

// withOneNaN answers a copy of a row, each NaN in it the one NaN.
func withOneNaN(row ...api.Item) []api.Item {
	l := slices.Clone(row)
	for i, x := range l {
		if math.IsNaN(x.Float) {
			l[i] = bits(oneNaN)
		}
		l[i].List = withOneNaN(x.List...)
	}
	return l
}

// rising are items of all kinds, each below the next one; the edges that the chapter names are among them.
func rising() []api.Item {
	l := []api.Item{null(), truth(false), truth(true), number(math.MinInt64), number(math.MinInt64 + 1)}
	for shift := 56; shift > 0; shift -= 8 {
		l = append(l, number(-1<<shift-1), number(-1<<shift), number(-1<<shift+1))
	}
	l = append(l, number(-2), number(-1), number(0), number(1), number(2))
	for shift := 8; shift < 64; shift += 8 {
		l = append(l, number(1<<shift-1), number(1<<shift), number(1<<shift+1))
	}
	l = append(l, number(math.MaxInt64-1), number(math.MaxInt64))
	for _, f := range []float64{math.Inf(-1), -math.MaxFloat64, -3, -1.5, -1, -0x1p-1022, -0x1p-1023, -5e-324, math.Copysign(0, -1), 0, 5e-324, 0x1p-1023, 0x1p-1022, 0.1, 1, 1.5, 3, 1 << 53, math.MaxFloat64, math.Inf(1)} {
		l = append(l, float(f))
	}
	l = append(l, bits(oneNaN))
	for _, s := range []string{"", "\x00", "\x00\x00", "\x00\x01", "\x00\xff", "\x01", "\x01\xff", "a", "a\x00", "a\x00\x00", "a\x00b", "a\x01", "ab", "a\xff", "b", "\xff", "\xff\x00", "\xff\xff"} {
		l = append(l, text(s))
	}
	for _, row := range [][]api.Item{{}, {null()}, {null(), null()}, {number(-1)}, {number(1)}, {number(1), null()}, {number(1), number(0)}, {number(2)}, {minusNought()}, {float(0)}, {bits(oneNaN)}, {text("")}, {text("\x00")}, {text("a"), null()}, {text("a\x00")}, {list()}, {list(), null()}, {list(null())}, {list(list())}} {
		l = append(l, list(row...))
	}
	return l
}

// picked answers a row that somebody picks, of at most so many items in all.
func picked(pick *rand.Rand, most, depth int) []api.Item {
	all := rising()
	var l []api.Item
	for n := pick.Intn(4); len(l) < min(n, most); {
		x := all[pick.Intn(len(all))]
		switch pick.Intn(8) {
		case 0:
			x = number(int64(pick.Uint64() >> pick.Intn(64)))
		case 1:
			x = number(-int64(pick.Uint64() >> pick.Intn(64)))
		case 2:
			x = bits(pick.Uint64())
		case 3:
			x = bits(math.Float64bits(math.NaN()) ^ pick.Uint64()>>13)
		case 4:
			s := make([]byte, pick.Intn(20))
			for i := range s {
				s[i] = "\x00\x01 !\"\\a~\x7f\xfe\xff"[pick.Intn(11)]
			}
			x = text(string(s))
		case 5, 6:
			if depth < api.MaxNest-2 {
				x = list(picked(pick, most/4, depth+1)...)
			}
		}
		l = append(l, x)
	}
	return l
}

// some answers rows that somebody picks, which Check takes.
func some(t *testing.T, n int, seed int64) [][]api.Item {
	t.Helper()
	pick := rand.New(rand.NewSource(seed))
	var rows [][]api.Item
	for range n {
		row := picked(pick, 12, 0)
		if e := tuple.Check(row...); e != api.OK {
			t.Fatalf("Check of %s: %d", shown(row...), e)
		}
		rows = append(rows, row)
	}
	return rows
}

func packed(t *testing.T, row ...api.Item) string {
	t.Helper()
	s, e := tuple.Pack(row...)
	if e != api.OK {
		t.Fatalf("Pack of %s: %d", shown(row...), e)
	}
	return s
}

// refused fails unless every call that a row is handed to refuses it with that error, and answers nothing beside it.
func refused(t *testing.T, want api.Errno, row ...api.Item) {
	t.Helper()
	if e := tuple.Check(row...); e != want {
		t.Errorf("Check: %d, want %d", e, want)
	}
	if s, e := tuple.Pack(row...); s != "" || e != want {
		t.Errorf("Pack: %x, %d, want %d", s, e, want)
	}
	if lo, hi, e := tuple.Under(row...); lo != "" || hi != "" || e != want {
		t.Errorf("Under: %x, %x, %d, want %d", lo, hi, e, want)
	}
	if s, e := tuple.Print(row...); s != "" || e != want {
		t.Errorf("Print: %s, %d, want %d", s, e, want)
	}
	if tuple.Order(row, []api.Item{null()}) != 0 || tuple.Order([]api.Item{null()}, row) != 0 || tuple.Order(nil, row) != 0 {
		t.Error("Order of a row that is refused is not 0")
	}
}

// taken fails unless every call that a row is handed to takes it.
func taken(t *testing.T, row ...api.Item) {
	t.Helper()
	if e := tuple.Check(row...); e != api.OK {
		t.Errorf("Check: %d", e)
	}
	if _, e := tuple.Pack(row...); e != api.OK {
		t.Errorf("Pack: %d", e)
	}
	if _, _, e := tuple.Under(row...); e != api.OK {
		t.Errorf("Under: %d", e)
	}
	if _, e := tuple.Print(row...); e != api.OK {
		t.Errorf("Print: %d", e)
	}
}

func TestRowsThatAreTaken(t *testing.T) {
	taken(t)
	taken(t, []api.Item{}...)
	for _, x := range rising() {
		taken(t, x)
		taken(t, x, x)
		taken(t, list(x))
	}
	taken(t, api.Item{Kind: api.ItNull, List: []api.Item{}})
	taken(t, api.Item{Kind: api.ItText, List: make([]api.Item, 0, 5)})
	taken(t, list([]api.Item{}...))
	taken(t, nans()...)
	some(t, 2000, 1)
}

// nans are NaNs of all manners.
func nans() []api.Item {
	return []api.Item{bits(0x7FF0000000000001), bits(0x7FFFFFFFFFFFFFFF), bits(0xFFF0000000000001), bits(0xFFF8000000000000), bits(math.MaxUint64), float(math.NaN()), bits(oneNaN)}
}

// An item may not be if its Kind is none, or if any field that its Kind doesn't name is not zero.
func TestItemsThatMayNotBe(t *testing.T) {
	for kind := range 256 {
		x := api.Item{Kind: api.ItemKind(kind)}
		if kind < 1 || kind > 6 {
			refused(t, api.ErrItem, x)
			refused(t, api.ErrItem, null(), x)
			refused(t, api.ErrItem, list(x))
		} else {
			taken(t, x)
		}
	}
	fill := []func(x *api.Item){
		func(x *api.Item) { x.Bool = true },
		func(x *api.Item) { x.Int = 1 },
		func(x *api.Item) { x.Int = math.MinInt64 },
		func(x *api.Item) { x.Float = 1 },
		func(x *api.Item) { x.Float = math.Copysign(0, -1) },
		func(x *api.Item) { x.Float = math.NaN() },
		func(x *api.Item) { x.Text = "x" },
		func(x *api.Item) { x.Text = "\x00" },
		func(x *api.Item) { x.List = nulls(1) },
		func(x *api.Item) { x.List = []api.Item{{}} },
	}
	named := []api.ItemKind{api.ItBool, api.ItInt, api.ItInt, api.ItFloat, api.ItFloat, api.ItFloat, api.ItText, api.ItText, api.ItList, api.ItList}
	for kind := range api.ItemKind(9) {
		for i, f := range fill {
			x := api.Item{Kind: kind}
			f(&x)
			if named[i] != kind {
				refused(t, api.ErrItem, x)
				refused(t, api.ErrItem, list(null(), x))
			} else if i != len(fill)-1 {
				taken(t, x)
			}
		}
	}
}

func TestMaxItems(t *testing.T) {
	taken(t, nulls(64)...)
	refused(t, api.ErrMany, nulls(65)...)
	refused(t, api.ErrMany, nulls(1000)...)
	taken(t, list(nulls(63)...))
	refused(t, api.ErrMany, list(nulls(64)...))
	taken(t, list(nulls(30)...), list(nulls(31)...), null())
	refused(t, api.ErrMany, list(nulls(30)...), list(nulls(31)...), null(), null())
	refused(t, api.ErrMany, append(nulls(60), lists(5))...)
	taken(t, append(nulls(60), lists(4))...)
}

func TestMaxNest(t *testing.T) {
	for n := 1; n <= 8; n++ {
		taken(t, lists(n))
		taken(t, lists(n, null(), text("a")))
	}
	refused(t, api.ErrNest, lists(9))
	refused(t, api.ErrNest, lists(9, null()))
	refused(t, api.ErrNest, lists(1000))
	refused(t, api.ErrNest, null(), lists(8, null(), list()))
	taken(t, lists(8), lists(8), lists(8))
}

func TestMaxRow(t *testing.T) {
	long := func(n int) api.Item { return text(strings.Repeat("x", n)) }
	noughts := func(n int) api.Item { return text(strings.Repeat("\x00", n)) }
	for _, x := range []struct {
		row  []api.Item
		rest int // how many bytes more its text may have
	}{
		{[]api.Item{}, 4093},
		{[]api.Item{null(), truth(false), truth(true)}, 4090},
		{[]api.Item{number(0)}, 4092},
		{[]api.Item{number(255), number(-255)}, 4089},
		{[]api.Item{number(256), number(-256)}, 4087},
		{[]api.Item{number(math.MaxInt64), number(math.MinInt64)}, 4075},
		{[]api.Item{float(1), float(math.NaN())}, 4075},
		{[]api.Item{noughts(10)}, 4070},
		{[]api.Item{lists(8)}, 4077},
		{[]api.Item{list(number(1), list(text("ab")))}, 4082},
	} {
		taken(t, append(x.row, long(x.rest))...)
		if s := packed(t, append(x.row, long(x.rest))...); len(s) != api.MaxRow {
			t.Errorf("%d bytes", len(s))
		}
		refused(t, api.ErrLong, append(x.row, long(x.rest+1))...)
	}
	taken(t, noughts(2046))
	refused(t, api.ErrLong, noughts(2047))
	taken(t, list(long(4091)))
	refused(t, api.ErrLong, list(long(4092)))
	refused(t, api.ErrLong, long(1<<24))
	refused(t, api.ErrLong, noughts(1<<24))
	many := slices.Repeat([]api.Item{long(61)}, 64)
	taken(t, many...)
	many[63] = long(62)
	refused(t, api.ErrLong, many...)
}

// What stands behind the first item that is refused counts for nothing; what is refused counts ahead of the length.
func TestWhichErrorIsTold(t *testing.T) {
	bad, deep, long := api.Item{}, lists(9), text(strings.Repeat("x", 5000))
	refused(t, api.ErrItem, bad, deep)
	refused(t, api.ErrNest, deep, bad)
	refused(t, api.ErrItem, append([]api.Item{bad}, nulls(100)...)...)
	refused(t, api.ErrItem, append(append(nulls(63), bad), nulls(100)...)...)
	refused(t, api.ErrMany, append(append(nulls(64), bad), nulls(100)...)...)
	refused(t, api.ErrMany, append(nulls(64), deep)...)
	refused(t, api.ErrNest, append(nulls(55), deep)...)
	refused(t, api.ErrMany, append(nulls(56), deep)...)
	refused(t, api.ErrItem, long, bad)
	refused(t, api.ErrNest, long, deep)
	refused(t, api.ErrMany, append([]api.Item{long}, nulls(64)...)...)
	refused(t, api.ErrLong, long)
	refused(t, api.ErrItem, list(null(), list(bad)), deep)
	refused(t, api.ErrNest, list(deep), bad)
	refused(t, api.ErrItem, lists(8, api.Item{Kind: api.ItList, Text: "x"}))
	refused(t, api.ErrItem, append(nulls(63), api.Item{Kind: api.ItList, Int: 1, List: nulls(1)})...)
	refused(t, api.ErrMany, append(nulls(63), list(bad))...)
	refused(t, api.ErrItem, api.Item{Kind: api.ItText, Text: long.Text, List: nulls(70)})
}

// A list that lies within itself is refused as one that is too deep.
func TestListWithinItself(t *testing.T) {
	loop := make([]api.Item, 1)
	loop[0] = list(loop...)
	refused(t, api.ErrNest, loop...)
	wide := make([]api.Item, 70)
	for i := range wide {
		wide[i] = list(wide...)
	}
	refused(t, api.ErrNest, wide...)
	late := nulls(70)
	late[9] = list(late...)
	refused(t, api.ErrMany, late...)
}

// What is handed in stays as it was, spare room behind it included.
func TestArgumentsStay(t *testing.T) {
	inner := []api.Item{text("a\x00 b"), bits(0x7FF0000000000001), minusNought(), number(9), null()}
	row := []api.Item{list(inner[:3]...), number(-300), text("x"), {Kind: 77, Text: "spare"}, bits(oneNaN)}
	was := shown(row...) + shown(inner...)
	for n := range len(row) + 1 {
		a := row[:n]
		tuple.Check(a...)
		tuple.Pack(a...)
		tuple.Under(a...)
		tuple.Print(a...)
		tuple.Order(a, row[:2])
		tuple.Order(row[:2], a)
		for _, x := range a {
			tuple.Compare(x, row[0])
			tuple.Compare(row[0], x)
		}
	}
	if got := shown(row...) + shown(inner...); got != was {
		t.Errorf("%s\n%s", got, was)
	}
}

// own fails unless the lists of an answer share no memory, spare room included: each is filled to its brim with marks of its own.
func own(t *testing.T, row []api.Item) {
	t.Helper()
	var all [][]api.Item
	var gather func(l []api.Item)
	gather = func(l []api.Item) {
		all = append(all, l[:cap(l)])
		for _, x := range l {
			gather(x.List)
		}
	}
	gather(row)
	for i, l := range all {
		for k := range l {
			l[k] = number(int64(i))
		}
	}
	for i, l := range all {
		for _, x := range l {
			if x.Kind != api.ItInt || x.Int != int64(i) {
				t.Fatalf("the list %d shares memory with the list %d", i, x.Int)
			}
		}
	}
}

func TestAnswersAreMemoryOfTheirOwn(t *testing.T) {
	row := []api.Item{list(null(), list(), list(number(1), text("a"), list(null())), list()), list(), text("b"), list(text("c"))}
	s := packed(t, row...)
	word, _ := tuple.Print(row...)
	for range 2 {
		for _, call := range []func() ([]api.Item, api.Errno){
			func() ([]api.Item, api.Errno) { return tuple.Unpack(s) },
			func() ([]api.Item, api.Errno) { return tuple.Parse(word) },
		} {
			l, e := call()
			if e != api.OK || shown(l...) != shown(row...) {
				t.Fatal(shown(l...), e)
			}
			other, _ := call()
			own(t, append([]api.Item{list(l...)}, list(other...)))
			if more, _ := call(); shown(more...) != shown(row...) {
				t.Error("an answer hangs on an earlier one")
			}
		}
	}
}
