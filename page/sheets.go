package page

import "heartwood/api"

// Sheets are the pages that stand on blocks. They are made by Over alone.
type Sheets struct {
	Blocks
	frame api.Frame
}

// Over makes Sheets that stand on b.
func Over(f api.Frame, b Blocks) (*Sheets, api.Errno) {
	if !May(f) {
		return nil, api.ErrArg
	}
	if b == nil {
		return nil, api.ErrNil
	}
	return &Sheets{Blocks: b, frame: f}, api.OK
}

// there tells Sheets from none, and from such as Over did not make: these have no frame, though anybody can give them blocks.
func (s *Sheets) there() bool { return s != nil && s.Blocks != nil && May(s.frame) }

// Page answers the page of that number out of what the blocks answer.
func (s *Sheets) Page(no uint32) (api.Page, api.Errno) {
	if !s.there() {
		return api.Page{}, api.ErrNil
	}
	if !numbered(no) {
		return api.Page{}, api.ErrArg
	}
	text, e := s.Read(no)
	if e != api.OK {
		return api.Page{}, e
	}
	return Open(s.frame, no, text)
}
