package meta

import "heartwood/api"

// empty answers the empty version's record, which no slot can hold.
func empty() api.Meta { return api.Meta{Pages: api.FirstPage} }

// Pick answers the record that counts in a file of so many pages, and the slot that the next one is to be laid into.
func Pick(f api.Frame, zero, one string, pages int) (m api.Meta, next uint32, e api.Errno) {
	if !framed(f) {
		return api.Meta{}, 0, api.ErrArg
	}
	if pages < api.FirstPage {
		return empty(), 0, api.OK
	}
	inZero, kindZero, e := Decode(f, zero)
	if e != api.OK {
		return api.Meta{}, 0, e
	}
	inOne, kindOne, e := Decode(f, one)
	if e != api.OK {
		return api.Meta{}, 0, e
	}
	m, next = newer(counting(inZero, pages), counting(inOne, pages))
	if m != (api.Meta{}) {
		return m, next, api.OK
	}
	switch {
	case kindZero == api.SlotForeign || kindOne == api.SlotForeign:
		return api.Meta{}, 0, api.ErrForeign
	case kindZero == api.SlotBlank && kindOne == api.SlotBlank:
		return empty(), 0, api.OK
	}
	return api.Meta{}, 0, api.ErrMeta
}

// counting answers a record, if it counts in a file of so many pages; else the zero one, which is no record.
func counting(m api.Meta, pages int) api.Meta {
	if int64(m.Pages) > int64(pages) {
		return api.Meta{}
	}
	return m
}

// newer answers the record with the greater version of the two slots', and the other slot. A zero one has a version below all.
func newer(zero, one api.Meta) (m api.Meta, next uint32) {
	if one.Version > zero.Version {
		return one, 0
	}
	return zero, 1
}
