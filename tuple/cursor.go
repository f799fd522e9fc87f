package tuple

import "strings"

// cursor goes through bytes, of which rest is what it did not come by yet. At the end it answers less than it is asked for: whoever reads holds what was read against the bytes.
type cursor struct {
	rest string
}

// take answers the next n bytes.
func (c *cursor) take(n int) string {
	n = min(n, len(c.rest))
	s := c.rest[:n]
	c.rest = c.rest[n:]
	return s
}

// next answers the next byte; 0 at the end.
func (c *cursor) next() byte {
	if s := c.take(1); s != "" {
		return s[0]
	}
	return 0
}

// until answers what stands ahead of the first of these marks; all, if there is none.
func (c *cursor) until(marks string) string {
	n := strings.IndexAny(c.rest, marks)
	if n < 0 {
		n = len(c.rest)
	}
	return c.take(n)
}

// spread answers a number's bytes, the highest first.
func spread(x uint64) [wide]byte {
	var eight [wide]byte
	for i := range eight {
		eight[wide-1-i] = byte(x)
		x >>= 8
	}
	return eight
}

// gather answers the number of at most eight bytes, the highest first; those that are wanting ahead are as fill.
func gather(s string, fill byte) uint64 {
	var l []byte
	for range wide - len(s) {
		l = append(l, fill)
	}
	l = append(l, s...)
	eight := [wide]byte(l)
	var x uint64
	for _, b := range eight {
		x <<= 8
		x |= uint64(b)
	}
	return x
}
