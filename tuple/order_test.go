package tuple_test

import (
	"cmp"
	"math"
	"math/rand"
	"slices"
	"strings"
	"testing"

	"heartwood/api"
	"heartwood/tuple"
)

func TestCompareOfRisingItems(t *testing.T) {
	for i, a := range rising() {
		for k, b := range rising() {
			if got := tuple.Compare(a, b); got != cmp.Compare(i, k) {
				t.Errorf("%s against %s: %d", shown(a), shown(b), got)
			}
			if got := tuple.Order([]api.Item{a}, []api.Item{b}); got != cmp.Compare(i, k) {
				t.Errorf("%s against %s as rows: %d", shown(a), shown(b), got)
			}
		}
	}
}

func TestNaNsAreAlike(t *testing.T) {
	for _, a := range nans() {
		for _, b := range nans() {
			if tuple.Compare(a, b) != 0 || tuple.Compare(list(a), list(b)) != 0 || packed(t, a) != packed(t, b) {
				t.Errorf("%s against %s", shown(a), shown(b))
			}
		}
		for _, x := range rising() {
			if x.Kind == api.ItFloat && !math.IsNaN(x.Float) && (tuple.Compare(a, x) != 1 || tuple.Compare(x, a) != -1) {
				t.Errorf("%s is not above %s", shown(a), shown(x))
			}
		}
	}
}

func TestOrderOfRows(t *testing.T) {
	rows := [][]api.Item{nil, {null()}, {null(), null()}, {null(), text("z")}, {number(1)}, {number(1), number(-5)}, {number(1), number(-5), null()}, {number(1), number(7)}, {number(2)}, {minusNought(), null()}, {float(0)}, {text("a"), list()}, {text("a\x00")}, {list(number(1))}, {list(number(1)), null()}, {list(number(1), null())}, {list(number(2))}}
	for i, a := range rows {
		for k, b := range rows {
			if got := tuple.Order(a, b); got != cmp.Compare(i, k) {
				t.Errorf("%s against %s: %d", shown(a...), shown(b...), got)
			}
		}
	}
	if tuple.Order(nil, []api.Item{}) != 0 || tuple.Order([]api.Item{}, nulls(1)) != -1 {
		t.Error("no items and an empty list are not alike")
	}
}

// Where one of two items is refused alone, their Kinds alone count.
func TestCompareByKindsAlone(t *testing.T) {
	long := strings.Repeat("x", 5000)
	for _, bad := range []api.Item{
		{}, {Kind: 7}, {Kind: 255, Int: 4},
		{Kind: api.ItNull, Text: "x"},
		{Kind: api.ItBool, Int: 1}, {Kind: api.ItBool, Bool: true, Float: math.Copysign(0, -1)},
		{Kind: api.ItInt, Int: math.MinInt64, Text: "x"}, {Kind: api.ItInt, Int: math.MaxInt64, Bool: true},
		{Kind: api.ItFloat, Float: math.NaN(), Int: 1}, {Kind: api.ItFloat, Float: math.Inf(-1), List: nulls(1)},
		text(long), {Kind: api.ItText, Int: 1}, lists(9), list(nulls(64)...), list(api.Item{}), list(text(long)),
	} {
		if tuple.Check(bad) == api.OK {
			t.Fatal(shown(bad))
		}
		for _, x := range append(rising(), text(long+"y"), lists(10, null()), api.Item{}, api.Item{Kind: 200}) {
			want := cmp.Compare(bad.Kind, x.Kind)
			if tuple.Compare(bad, x) != want || tuple.Compare(x, bad) != -want {
				t.Errorf("%d against %s: %d, %d", bad.Kind, shown(x), tuple.Compare(bad, x), tuple.Compare(x, bad))
			}
		}
	}
}

// At the bounds the items themselves count.
func TestCompareAtTheBounds(t *testing.T) {
	long := strings.Repeat("x", 4092)
	for _, x := range [][2]api.Item{
		{text(long + "a"), text(long + "b")},
		{lists(8, null()), lists(8, truth(false))},
		{list(append(nulls(62), number(1))...), list(append(nulls(62), number(2))...)},
	} {
		if tuple.Compare(x[0], x[1]) != -1 || tuple.Compare(x[1], x[0]) != 1 || tuple.Compare(x[0], x[0]) != 0 {
			t.Error("items at a bound are not told apart")
		}
	}
}

// Where one of two rows is refused, they count as alike, though a beginning of theirs may tell them apart.
func TestOrderOfRowsThatAreRefused(t *testing.T) {
	good := []api.Item{number(1)}
	for _, bad := range [][]api.Item{{number(0), {}}, {number(2), {}}, nulls(65), {number(2), lists(9)}, {number(2), text(strings.Repeat("x", 5000))}} {
		if tuple.Order(good, bad) != 0 || tuple.Order(bad, good) != 0 || tuple.Order(bad, bad) != 0 || tuple.Order(nil, bad) != 0 {
			t.Error(len(bad))
		}
	}
}

// pairs calls do with rows that somebody picks: many of them begin alike.
func pairs(t *testing.T, do func(a, b []api.Item)) {
	pick := rand.New(rand.NewSource(3))
	rows := some(t, 300, 4)
	for range 20000 {
		a, b := rows[pick.Intn(len(rows))], rows[pick.Intn(len(rows))]
		switch pick.Intn(4) {
		case 0:
			b = slices.Concat(a, b)
		case 1:
			b = slices.Concat(a[:pick.Intn(len(a)+1)], b)
		case 2:
			b = slices.Concat(a[:len(a)/2], []api.Item{list(a...)})
			a = slices.Concat(a[:len(a)/2], []api.Item{list(rows[pick.Intn(len(rows))]...)})
		}
		if tuple.Check(a...) == api.OK && tuple.Check(b...) == api.OK {
			do(a, b)
		}
	}
}

func TestTheOrderIsKept(t *testing.T) {
	got := map[int]int{}
	pairs(t, func(a, b []api.Item) {
		want := strings.Compare(packed(t, a...), packed(t, b...))
		if tuple.Order(a, b) != want || tuple.Order(b, a) != -want {
			t.Fatalf("%s against %s: %d, want %d", shown(a...), shown(b...), tuple.Order(a, b), want)
		}
		got[want]++
	})
	if got[-1] < 1000 || got[0] < 20 || got[1] < 1000 {
		t.Error(got)
	}
}

func TestTotalOrder(t *testing.T) {
	pick := rand.New(rand.NewSource(5))
	all := append(rising(), nans()...)
	for _, row := range some(t, 40, 6) {
		all = append(all, list(row...))
		all = append(all, row...)
	}
	for _, a := range all {
		for _, b := range all {
			ab := tuple.Compare(a, b)
			if ab != -tuple.Compare(b, a) || (ab == 0) != (packed(t, a) == packed(t, b)) {
				t.Fatalf("%s against %s", shown(a), shown(b))
			}
			c := all[pick.Intn(len(all))]
			if bc := tuple.Compare(b, c); ab <= 0 && bc <= 0 && tuple.Compare(a, c) != min(ab, bc) {
				t.Fatalf("%s, %s, %s", shown(a), shown(b), shown(c))
			}
		}
	}
}

// begins tells whether the items of a are like the first ones of b, each for each.
func begins(a, b []api.Item) bool {
	if len(a) > len(b) {
		return false
	}
	for i, x := range a {
		if tuple.Compare(x, b[i]) != 0 {
			return false
		}
	}
	return true
}

func TestBeginnings(t *testing.T) {
	under := 0
	pairs(t, func(a, b []api.Item) {
		for range 2 {
			a, b = b, a
			p, q := packed(t, a...), packed(t, b...)
			if strings.HasPrefix(q, p) != begins(a, b) {
				t.Fatalf("%s and %s", shown(a...), shown(b...))
			}
			lo, hi, e := tuple.Under(a...)
			within := q >= lo && (hi == "" || q < hi)
			if e != api.OK || within != begins(a, b) {
				t.Fatalf("%s under %s: %x, %x, %d", shown(b...), shown(a...), lo, hi, e)
			}
			if within && len(a) > 0 {
				under++
			}
		}
	})
	if under < 1000 {
		t.Error(under)
	}
}
