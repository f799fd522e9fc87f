package sums

import "heartwood/api"

// countSize is how many bytes the number of a part's bytes has.
const countSize = 4

// Text answers the text of a tag and parts.
func Text(tag string, parts ...string) (string, api.Errno) {
	if !isTag(len(tag)) {
		return "", api.ErrTag
	}
	text := append([]byte{byte(len(tag))}, tag...)
	for _, part := range parts {
		text = append(text, fourBytes(uint32(len(part)))...)
		text = append(text, part...)
	}
	return string(text), api.OK
}

func isTag(size int) bool { return size >= 1 && size <= api.MaxTag }

// Parts answers the tag and the parts whose text it is.
func Parts(text string) (tag string, parts []string, e api.Errno) {
	tag, rest, ok := firstTag(text)
	for ok && rest != "" {
		var part string
		part, rest, ok = firstPart(rest)
		parts = append(parts, part)
	}
	if !ok {
		return "", nil, api.ErrText
	}
	return tag, parts, api.OK
}

// firstTag answers the tag with which a text begins, and what stands behind it.
func firstTag(text string) (tag, rest string, ok bool) {
	if text == "" {
		return "", "", false
	}
	size := int(text[0])
	if !isTag(size) || len(text) <= size {
		return "", "", false
	}
	return text[1 : 1+size], text[1+size:], true
}

// firstPart answers the part with which s begins, and what stands behind it.
func firstPart(s string) (part, rest string, ok bool) {
	if len(s) < countSize {
		return "", "", false
	}
	var size uint32
	for i := range countSize {
		size <<= 8
		size |= uint32(s[i])
	}
	s = s[countSize:]
	if uint64(size) > uint64(len(s)) {
		return "", "", false
	}
	return s[:size], s[size:], true
}
