package tuple

import (
	"cmp"
	"slices"

	"heartwood/api"
)

// Compare tells how two items stand to one another; where one of them is refused, how their Kinds do.
func Compare(a, b api.Item) int {
	if Check(a) != api.OK || Check(b) != api.OK {
		return cmp.Compare(a.Kind, b.Kind)
	}
	return compareItems(a, b)
}

// Order tells how two rows stand to one another; 0, where one of them is refused.
func Order(a, b []api.Item) int {
	if Check(a...) != api.OK || Check(b...) != api.OK {
		return 0
	}
	return compareRows(a, b)
}

func compareRows(a, b []api.Item) int { return slices.CompareFunc(a, b, compareItems) }

func compareItems(a, b api.Item) int {
	if a.Kind != b.Kind {
		return cmp.Compare(a.Kind, b.Kind)
	}
	switch a.Kind {
	case api.ItBool:
		return compareBools(a.Bool, b.Bool)
	case api.ItInt:
		return cmp.Compare(a.Int, b.Int)
	case api.ItFloat:
		return compareFloats(a.Float, b.Float)
	case api.ItText:
		return cmp.Compare(a.Text, b.Text)
	case api.ItList:
		return compareRows(a.List, b.List)
	}
	return 0
}

func compareBools(a, b bool) int {
	if a == b {
		return 0
	}
	if b {
		return -1
	}
	return 1
}
