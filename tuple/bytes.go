package tuple

import (
	"math"
	"math/bits"
	"strings"

	"heartwood/api"
)

// What stands at the beginning of an item's bytes, and what ends them.
const (
	markNull  = 0x01
	markFalse = 0x02
	markTrue  = 0x03
	markInt   = 0x14 // of 0: of others it is as far off as they have bytes
	markFloat = 0x20
	markText  = 0x24
	markList  = 0x28
	markEnd   = 0x00

	textEnds = 0x01 // behind a 00
	textOn   = 0xFF // behind a 00
)

const wide = 8 // bytes of a number

// Pack answers a row's bytes.
func Pack(row ...api.Item) (string, api.Errno) {
	if e := Check(row...); e != api.OK {
		return "", e
	}
	return string(layRow(nil, row)), api.OK
}

// Unpack answers the row whose bytes s are. It is read as if it were a row's; whether it is one's, and in its one form, is told by packing again what was read.
func Unpack(s string) ([]api.Item, api.Errno) {
	if len(s) > api.MaxRow {
		return nil, api.ErrLong
	}
	c := cursor{s}
	var row []api.Item
	for c.rest != "" {
		row = append(row, c.item(c.next()))
	}
	if again, e := Pack(row...); e != api.OK || again != s {
		return nil, api.ErrRow
	}
	return row, api.OK
}

// Under answers between which bytes those of the rows lie that begin with these items.
func Under(first ...api.Item) (lo, hi string, e api.Errno) {
	lo, e = Pack(first...)
	return lo, above(lo), e
}

// above answers the least bytes that are above all which begin with s; none, if there are none.
func above(s string) string {
	for i := len(s) - 1; i >= 0; i-- {
		if s[i] != 0xFF {
			return s[:i] + string([]byte{s[i] + 1})
		}
	}
	return ""
}

// ownSize tells how many bytes an item has, those of its List's items aside.
func ownSize(x api.Item) int {
	switch x.Kind {
	case api.ItInt:
		return 1 + width(x.Int)
	case api.ItFloat:
		return 1 + wide
	case api.ItText:
		return 1 + len(x.Text) + strings.Count(x.Text, "\x00") + 2
	case api.ItList:
		return 2
	}
	return 1
}

// width tells the fewest bytes that hold n without its sign.
func width(n int64) int {
	x := uint64(n)
	if n < 0 {
		x = -x
	}
	return (bits.Len64(x) + 7) / 8
}

func layRow(b []byte, row []api.Item) []byte {
	for _, x := range row {
		b = layItem(b, x)
	}
	return b
}

func layItem(b []byte, x api.Item) []byte {
	switch x.Kind {
	case api.ItNull:
		return append(b, markNull)
	case api.ItBool:
		if x.Bool {
			return append(b, markTrue)
		}
		return append(b, markFalse)
	case api.ItInt:
		return layInt(b, x.Int)
	case api.ItFloat:
		eight := spread(turned(bitsOf(x.Float)))
		return append(append(b, markFloat), eight[:]...)
	case api.ItText:
		return layText(append(b, markText), x.Text)
	}
	return append(layRow(append(b, markList), x.List), markEnd)
}

// layInt lays a number; of one below 0 it takes n - 1, whose lowest bytes are those of 256^m - 1 + n.
func layInt(b []byte, n int64) []byte {
	m, x := width(n), uint64(n)
	mark := markInt + m
	if n < 0 {
		x--
		mark = markInt - m
	}
	eight := spread(x)
	return append(append(b, byte(mark)), eight[wide-m:]...)
}

func layText(b []byte, s string) []byte {
	for i := range len(s) {
		b = append(b, s[i])
		if s[i] == 0 {
			b = append(b, textOn)
		}
	}
	return append(b, 0, textEnds)
}

// item reads an item behind its mark; of a mark that is none's it answers one that may not be.
func (c *cursor) item(mark byte) api.Item {
	switch {
	case mark == markNull:
		return api.Item{Kind: api.ItNull}
	case mark == markFalse || mark == markTrue:
		return api.Item{Kind: api.ItBool, Bool: mark == markTrue}
	case markInt-wide <= mark && mark <= markInt+wide:
		return api.Item{Kind: api.ItInt, Int: c.number(int(mark) - markInt)}
	case mark == markFloat:
		return api.Item{Kind: api.ItFloat, Float: c.float()}
	case mark == markText:
		return api.Item{Kind: api.ItText, Text: c.text()}
	case mark == markList:
		return api.Item{Kind: api.ItList, List: c.list()}
	}
	return api.Item{}
}

// number reads a number of so many bytes, of one below 0 as many below 0: what layInt laid.
func (c *cursor) number(m int) int64 {
	if m < 0 {
		return int64(gather(c.take(-m), 0xFF) + 1)
	}
	return int64(gather(c.take(m), 0))
}

func (c *cursor) float() float64 {
	return math.Float64frombits(turnedBack(gather(c.take(wide), 0)))
}

func (c *cursor) text() string {
	var b []byte
	for c.rest != "" {
		x := c.next()
		if x == 0 && c.next() != textOn {
			break
		}
		b = append(b, x)
	}
	return string(b)
}

func (c *cursor) list() []api.Item {
	var l []api.Item
	for mark := c.next(); mark != markEnd; mark = c.next() {
		l = append(l, c.item(mark))
	}
	return l
}
