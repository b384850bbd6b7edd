package server

import (
	"canopy/api"
	"canopy/forest"
	"canopy/history"
	"canopy/tape"
	"canopy/txn"
	"canopy/wire"
)

// Phases of a session.
const (
	idle = iota
	begun
	waiting
)

// session: its transaction means something only while it has begun one.
type session struct {
	phase int
	txn   api.Txn
}

// ask: a request comes, and is replied to, unless it is a commit that waits.
func (s *server) ask(at int, data []byte) {
	r, later, e := s.answer(at, data)
	if later {
		return
	}
	if e != api.OK {
		r = api.Reply{Code: e}
	}
	r.Session = at
	s.replies = append(s.replies, r)
}

// answer a request of a session; later: the reply is given at the Sync.
func (s *server) answer(at int, data []byte) (r api.Reply, later bool, e api.Errno) {
	if !s.up {
		return api.Reply{}, false, api.ErrOver
	}
	q, e := wire.Decode(data)
	if e != api.OK {
		return api.Reply{}, false, e
	}
	x := &s.sessions[at]
	if e := s.admit(x, q.Kind); e != api.OK {
		return api.Reply{}, false, e
	}
	switch q.Kind {
	case api.Begin:
		r = s.begin(x)
	case api.Get:
		r, e = s.get(x, q)
	case api.Scan:
		r, e = s.scan(x, q)
	case api.Put, api.Delete:
		e = x.write(q)
	case api.Commits:
		r, later, e = s.commit(at)
	case api.Abort:
		*x = session{}
	case api.Prove:
		r, e = s.prove(q)
	}
	return r, later, e
}

// admit a session's request, or refuse it. A transaction whose start is not kept ends here.
func (s *server) admit(x *session, kind int) api.Errno {
	if kind == api.Prove {
		return api.OK
	}
	wanted := begun
	if kind == api.Begin {
		wanted = idle
	}
	if x.phase != wanted {
		return api.ErrState
	}
	if kind == api.Begin || kind == api.Abort || history.Kept(s.synced, x.txn.Start) {
		return api.OK
	}
	*x = session{}
	return api.ErrGone
}

func (s *server) begin(x *session) api.Reply {
	*x = session{phase: begun, txn: api.Txn{Start: s.synced}}
	return api.Reply{Turn: s.synced}
}

func (s *server) get(x *session, q api.Request) (api.Reply, api.Errno) {
	found, own, e := txn.Look(s.forests[x.txn.Start], x.txn, q.Name, q.Key)
	// What it has written itself it would read whatever others do: that hangs on no commit.
	if e == api.OK && !own {
		e = x.note(q)
	}
	return api.Reply{Turn: x.txn.Start, Found: found.Found, Value: found.Value}, e
}

func (s *server) scan(x *session, q api.Request) (api.Reply, api.Errno) {
	pairs, e := txn.Scan(s.forests[x.txn.Start], x.txn, q.Name, q.Key, q.Last)
	if e == api.OK {
		e = x.note(q)
	}
	return api.Reply{Turn: x.txn.Start, Pairs: pairs}, e
}

// note what a request reads; where there is no room, the transaction stays as it is.
func (x *session) note(q api.Request) api.Errno {
	read, e := wire.Read(q)
	if e != api.OK {
		return e
	}
	next, e := txn.Note(x.txn, read)
	if e == api.OK {
		x.txn = next
	}
	return e
}

// write what a request writes; where that is refused, the transaction stays as it is.
func (x *session) write(q api.Request) api.Errno {
	w, e := wire.Write(q)
	if e != api.OK {
		return e
	}
	next, e := txn.Write(x.txn, w)
	if e == api.OK {
		x.txn = next
	}
	return e
}

// commit a session's transaction; later: it waits.
func (s *server) commit(at int) (r api.Reply, later bool, e api.Errno) {
	x := &s.sessions[at]
	t := x.txn
	writes := len(t.Writes) > 0
	if writes && (len(s.waiting) == api.MaxQueue || len(s.commits) == api.MaxCommits) {
		return api.Reply{}, false, api.ErrFull
	}
	// From here on it is over, whatever comes of it.
	*x = session{}
	if !writes {
		return api.Reply{Turn: t.Start}, false, api.OK
	}
	if e := s.enter(t); e != api.OK {
		return api.Reply{}, false, e
	}
	x.phase = waiting
	s.waiting = append(s.waiting, at)
	return api.Reply{}, true, api.OK
}

// enter a transaction as a commit behind all others, those that wait, too.
func (s *server) enter(t api.Txn) api.Errno {
	clash, e := txn.Clash(t, s.commits)
	if e != api.OK {
		return e
	}
	if clash {
		return api.ErrClash
	}
	turn := len(s.commits)
	grown, e := forest.Apply(s.forests[turn], t.Writes)
	if e != api.OK {
		return e
	}
	c := api.Commit{Turn: turn + 1, Writes: t.Writes}
	longer, e := tape.Append(s.tape, c)
	if e != api.OK {
		return e
	}
	s.tape, s.commits, s.forests = longer, append(s.commits, c), append(s.forests, grown)
	return api.OK
}

// prove what a key has behind the last synced turn: of what waits nothing is told.
func (s *server) prove(q api.Request) (api.Reply, api.Errno) {
	f := s.forests[s.synced]
	found, e := forest.Get(f, q.Name, q.Key)
	if e != api.OK {
		return api.Reply{}, e
	}
	root, e := forest.Root(f)
	if e != api.OK {
		return api.Reply{}, e
	}
	outer, inner, e := forest.Prove(f, q.Name, q.Key)
	if e != api.OK {
		return api.Reply{}, e
	}
	return api.Reply{Turn: s.synced, Found: found.Found, Value: found.Value, Root: root, Outer: outer, Inner: inner}, api.OK
}
