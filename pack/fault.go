package pack

import (
	"strconv"

	"heartwood/api"
)

// Fault is what could not be read: its error's number, and the place at which it begins.
type Fault struct {
	Code api.Errno
	At   int
}

func (f *Fault) Error() string {
	if f == nil {
		return ""
	}
	return "pack: " + strconv.Itoa(int(f.Code)) + " at " + strconv.Itoa(f.At)
}

// Unwrap answers the Code, so that errors.Is and errors.As find it.
func (f *Fault) Unwrap() error {
	if f == nil {
		return nil
	}
	return f.Code
}
