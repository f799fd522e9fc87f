package clash

import "heartwood/api"

// comes is how a side comes to the kid i of a node: to nothing, if it does not hold it.
type comes func(of *sight, i int) (*sight, api.Errno)

// first answers the first clash that is met when two sides are walked through together, or the error that comes ahead of it; ErrAlike, if there is neither.
func first(one, two *sight, ofOne, ofTwo comes) (c api.Clash, e api.Errno) {
	defer func() {
		if x := recover(); x != nil {
			end := endOf(x)
			c, e = end.found, end.why
		}
	}()
	together(one, two, ofOne, ofTwo)
	return api.Clash{}, api.ErrAlike
}

// together walks through two nodes of one digest, and what hangs from them. It ends where anything is to be told.
func together(one, two *sight, ofOne, ofTwo comes) {
	if one.text != two.text {
		panic(ended{found: api.Clash{One: one.text, Two: two.text}})
	}
	for i := range one.Kids {
		a, e := ofOne(one, i)
		well(e)
		b, e := ofTwo(two, i)
		well(e)
		if a != nil && b != nil {
			together(a, b, ofOne, ofTwo)
		}
	}
}

// ended is what a walk is ended with: a panic, which is caught at the face.
type ended struct {
	found api.Clash
	why   api.Errno
}

// well ends the walk at an error.
func well(e api.Errno) {
	if e != api.OK {
		panic(ended{why: e})
	}
}

// endOf is how a walk ended. What else was caught is of a source of the caller's own, and goes on to the caller.
func endOf(caught any) ended {
	end, own := caught.(ended)
	if !own {
		panic(caught)
	}
	return end
}
