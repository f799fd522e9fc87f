package store

import "heartwood/api"

// asks answers what an Op of each kind does.
func asks() map[api.OpKind]func(*Store, api.Op) api.Reply {
	return map[api.OpKind]func(*Store, api.Op) api.Reply{
		api.OpPut:      (*Store).put,
		api.OpDelete:   (*Store).remove,
		api.OpGet:      (*Store).get,
		api.OpScan:     (*Store).scan,
		api.OpCommit:   (*Store).commit,
		api.OpRollback: (*Store).rollback,
		api.OpRoot:     (*Store).root,
		api.OpVersion:  (*Store).version,
	}
}

// Do does what an Op asks for.
func (s *Store) Do(o api.Op) api.Reply {
	if e := s.ready(); e != api.OK {
		return api.Reply{Err: e}
	}
	ask, is := asks()[o.Kind]
	if !is {
		return api.Reply{Err: api.ErrArg}
	}
	return ask(s, o)
}

// Does does what Ops ask for, one behind the other.
func (s *Store) Does(ops ...api.Op) []api.Reply {
	var l []api.Reply
	for _, o := range ops {
		l = append(l, s.Do(o))
	}
	return l
}

func (s *Store) put(o api.Op) api.Reply { return api.Reply{Err: s.Put(o.Key, o.Val)} }

func (s *Store) remove(o api.Op) (r api.Reply) {
	r.Has, r.Err = s.Delete(o.Key)
	return r
}

func (s *Store) get(o api.Op) (r api.Reply) {
	r.Val, r.Has, r.Err = s.Get(o.Key)
	return r
}

func (s *Store) scan(o api.Op) (r api.Reply) {
	r.Pairs, r.Err = s.Scan(o.Key, o.Val, o.Limit)
	return r
}

func (s *Store) commit(api.Op) api.Reply { return api.Reply{Err: s.Commit()} }

func (s *Store) rollback(api.Op) api.Reply { return api.Reply{Err: s.Rollback()} }

func (s *Store) root(api.Op) (r api.Reply) {
	r.Sum, r.Err = s.Root()
	return r
}

func (s *Store) version(api.Op) (r api.Reply) {
	r.Version, r.Err = s.Version()
	return r
}
