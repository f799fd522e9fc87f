package tuple

import (
	"strconv"
	"strings"

	"heartwood/api"
)

const digits = "0123456789abcdef"

// Print answers a row's word.
func Print(row ...api.Item) (string, api.Errno) {
	if e := Check(row...); e != api.OK {
		return "", e
	}
	b := sayItems([]byte{'('}, row)
	return string(append(b, ')')), api.OK
}

// Parse answers the row whose word it is. It is read as if it were a row's; whether it is one's, and in its one form, is told by printing again what was read.
func Parse(word string) ([]api.Item, api.Errno) {
	if len(word) > api.MaxWord {
		return nil, api.ErrLong
	}
	c := cursor{word}
	c.next()
	row := c.words()
	if again, e := Print(row...); e != api.OK || again != word {
		return nil, api.ErrWord
	}
	return row, api.OK
}

func sayItems(b []byte, row []api.Item) []byte {
	for i, x := range row {
		if i > 0 {
			b = append(b, ',')
		}
		b = sayItem(b, x)
	}
	return b
}

func sayItem(b []byte, x api.Item) []byte {
	switch x.Kind {
	case api.ItNull:
		return append(b, "null"...)
	case api.ItBool:
		return strconv.AppendBool(b, x.Bool)
	case api.ItInt:
		return strconv.AppendInt(b, x.Int, 10)
	case api.ItFloat:
		return sayFloat(b, x.Float)
	case api.ItText:
		return sayText(b, x.Text)
	}
	return append(sayItems(append(b, '['), x.List), ']')
}

func sayText(b []byte, s string) []byte {
	b = append(b, '"')
	for i := range len(s) {
		if x := s[i]; plain(x) {
			b = append(b, x)
		} else {
			b = append(b, '\\', digits[x>>4], digits[x&15])
		}
	}
	return append(b, '"')
}

// plain tells whether a byte of a text stands as it is in its word.
func plain(x byte) bool { return 0x21 <= x && x <= 0x7E && x != '"' && x != '\\' }

// words reads words up to the bracket that ends them, and that one.
func (c *cursor) words() []api.Item {
	if strings.HasPrefix(c.rest, ")") || strings.HasPrefix(c.rest, "]") {
		c.next()
		return nil
	}
	l := []api.Item{c.word()}
	for c.next() == ',' {
		l = append(l, c.word())
	}
	return l
}

// word reads an item; where there is no item's word it answers one that may not be.
func (c *cursor) word() api.Item {
	switch {
	case strings.HasPrefix(c.rest, "["):
		c.next()
		return api.Item{Kind: api.ItList, List: c.words()}
	case strings.HasPrefix(c.rest, "\""):
		c.next()
		text := hearText(c.until("\""))
		c.next()
		return api.Item{Kind: api.ItText, Text: text}
	}
	return hear(c.until(",)]"))
}

// hear answers the item of a word that is neither a text's nor a list's.
func hear(word string) api.Item {
	switch word {
	case "null":
		return api.Item{Kind: api.ItNull}
	case "false", "true":
		return api.Item{Kind: api.ItBool, Bool: word == "true"}
	}
	if f, ok := hearFloat(word); ok {
		return api.Item{Kind: api.ItFloat, Float: f}
	}
	if n, bad := strconv.ParseInt(word, 10, 64); bad == nil {
		return api.Item{Kind: api.ItInt, Int: n}
	}
	return api.Item{}
}

// hearText answers the text whose bytes, between the quotes, these are. What is no digit it takes for a nought, which is not printed so again.
func hearText(s string) string {
	var b []byte
	c := cursor{s}
	for c.rest != "" {
		x := c.next()
		if x == '\\' {
			code, _ := strconv.ParseUint(c.take(2), 16, 8)
			x = byte(code)
		}
		b = append(b, x)
	}
	return string(b)
}
