package commit

import (
	"heartwood/api"
	"heartwood/free"
	"heartwood/meta"
	"heartwood/page"
)

// Commit commits a change as the next version.
func (f *File) Commit(c Change) api.Errno {
	if e := f.refuses(c); e != api.OK {
		return e
	}
	if f.meta.Version == api.MaxVersion {
		f.givenUp = true
		return api.ErrFull
	}
	return f.write(c, f.meta.Version+1)
}

// CommitAs commits a change as a version of that number, which may leave some out.
func (f *File) CommitAs(c Change, version uint64) api.Errno {
	if e := f.refuses(c); e != api.OK {
		return e
	}
	if version <= f.meta.Version || version > api.MaxVersion {
		return api.ErrArg
	}
	return f.write(c, version)
}

// refuses answers why a change can't be committed now, under whatever version, if so.
func (f *File) refuses(c Change) api.Errno {
	if c == nil {
		return api.ErrNil
	}
	if e := f.State(); e != api.OK {
		return e
	}
	if c.Base() != f.meta.Root {
		return api.ErrOther
	}
	return api.OK
}

// write does what a commit does, step by step. A step that fails gives the file up: which version is on the disk then is known only when it is opened again.
func (f *File) write(c Change, version uint64) api.Errno {
	var plan api.Plan
	var chain []api.Batch
	var nodes []api.Page
	m := api.Meta{Version: version}
	steps := []func() api.Errno{
		func() (e api.Errno) { plan, e = f.plan(c); return e },
		func() (e api.Errno) { nodes, m.Root, e = c.Lay(version, plan.Trees); return e },
		func() api.Errno { return f.reach(plan.Pages) },
		func() api.Errno { return f.writePages(nodes) },
		func() api.Errno { return f.writeLists(version, plan) },
		// All that the meta names is durable ahead of it, or a loss of power could leave the meta without it.
		func() api.Errno { return f.disk.Sync() },
		func() api.Errno {
			chain = free.After(f.chain, plan)
			m.List, m.Pages = first(chain), plan.Pages
			return f.writeMeta(m)
		},
		func() api.Errno { return f.disk.Sync() },
	}
	for _, step := range steps {
		if e := step(); e != api.OK {
			f.givenUp = true
			return e
		}
	}
	f.meta, f.chain, f.next = m, chain, 1-f.next
	return api.OK
}

// plan answers which pages a change takes.
func (f *File) plan(c Change) (api.Plan, api.Errno) {
	need := api.Need{Chain: f.chain, Pages: f.meta.Pages, Held: f.heldPages(), Trees: c.Changed(), Released: c.Freed(), Most: uint32(f.config.Most)}
	plan, e := free.Plan(f.config.Frame, need)
	if e != api.OK && e != api.ErrFull {
		return api.Plan{}, api.ErrOther // the file's own part of the need is right, so what the change tells is not
	}
	return plan, e
}

// reach makes the disk have so many pages, if it has fewer.
func (f *File) reach(pages uint32) api.Errno {
	wanting := int(pages) - f.disk.Size()
	if wanting <= 0 {
		return api.OK
	}
	return f.disk.Grow(wanting)
}

// writePages writes pages in their order.
func (f *File) writePages(pages []api.Page) api.Errno {
	for _, p := range pages {
		form, e := page.Write(f.config.Frame, p)
		if e != api.OK {
			return e
		}
		if e := f.disk.Write(p.No, form); e != api.OK {
			return e
		}
	}
	return api.OK
}

// writeLists writes the list pages that a plan makes, in their order.
func (f *File) writeLists(version uint64, plan api.Plan) api.Errno {
	lists, e := free.Lay(f.config.Frame, version, f.chain, plan)
	if e != api.OK {
		return e
	}
	return f.writePages(lists)
}

// writeMeta writes a meta into the slot that does not count.
func (f *File) writeMeta(m api.Meta) api.Errno {
	form, e := meta.Encode(f.config.Frame, m)
	if e != api.OK {
		return e
	}
	return f.disk.Write(f.next, form)
}

// first answers the first page of a chain; 0, if it has none.
func first(chain []api.Batch) uint32 {
	if len(chain) == 0 {
		return 0
	}
	return chain[0].Page
}
