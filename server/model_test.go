package server

import (
	"cmp"
	"maps"
	"slices"

	"canopy/api"
	"canopy/forest"
)

// A second server, from the chapters' words, on maps of texts: of the layers below it takes only roots and proofs.

type spot struct{ name, key string }

// world: what each spot has.
type world map[spot]string

type change struct {
	spot
	gone  bool
	value string
}

// glance: what was read: from its key to last, if it is wide.
type glance struct {
	spot
	wide bool
	last string
}

type visitor struct {
	begun, waits bool
	start        int
	glances      []glance
	changes      []change
}

type model struct {
	down     bool
	worlds   []world // behind each turn
	commits  [][]change
	synced   int
	queue    []int
	visitors [api.MaxSessions]visitor
	replies  []api.Reply
}

func newModel() *model { return &model{worlds: []world{{}}} }

// deed: an act, and the request of an Ask; or what its Data, which is none, is refused with.
type deed struct {
	act     api.Act
	request api.Request
	refused api.Errno
}

func (m *model) do(d deed) {
	switch d.act.Kind {
	case api.Ask:
		m.ask(d)
	case api.Sync:
		m.sync()
	case api.Crash:
		m.crash(d.act.Keep)
	case api.Start:
		m.down = false
	}
}

func (m *model) sync() {
	for _, x := range m.queue {
		m.synced++
		m.visitors[x] = visitor{}
		m.replies = append(m.replies, api.Reply{Session: x, Turn: m.synced})
	}
	m.queue = nil
}

// crash: each commit that waits takes so many bytes; those stay that end within keep.
func (m *model) crash(keep int) {
	if m.down {
		return
	}
	end := 0
	stay := m.synced
	for _, c := range m.commits[m.synced:] {
		end += 2 + 4 + 4
		for _, w := range c {
			end += 3 + len(w.name) + len(w.key) + len(w.value)
		}
		if end > keep {
			break
		}
		stay++
	}
	m.commits, m.worlds, m.synced = m.commits[:stay], m.worlds[:stay+1], stay
	m.queue, m.visitors, m.down = nil, [api.MaxSessions]visitor{}, true
}

func (m *model) ask(d deed) {
	x := d.act.Session
	r, waits := m.answer(x, d)
	if waits {
		return
	}
	if r.Code != api.OK {
		r = api.Reply{Code: r.Code}
	}
	r.Session = x
	m.replies = append(m.replies, r)
}

func no(e api.Errno) api.Reply { return api.Reply{Code: e} }

func (m *model) answer(x int, d deed) (r api.Reply, waits bool) {
	v, q := &m.visitors[x], d.request
	at := spot{string(q.Name), string(q.Key)}
	switch {
	case m.down:
		return no(api.ErrOver), false
	case d.refused != api.OK:
		return no(d.refused), false
	case q.Kind == api.Prove:
		return m.prove(at), false
	case v.waits || v.begun == (q.Kind == api.Begin):
		return no(api.ErrState), false
	case q.Kind == api.Begin:
		*v = visitor{begun: true, start: m.synced}
		return api.Reply{Turn: m.synced}, false
	case q.Kind == api.Abort:
		*v = visitor{}
		return api.Reply{}, false
	case m.synced-v.start >= api.MaxKept:
		*v = visitor{}
		return no(api.ErrGone), false
	case q.Kind == api.Get:
		return m.get(v, at), false
	case q.Kind == api.Scan:
		return m.scan(v, at, string(q.Last)), false
	case q.Kind == api.Commits:
		return m.commit(x)
	}
	return no(v.write(change{at, q.Kind == api.Delete, string(q.Value)})), false
}

func (m *model) prove(at spot) api.Reply {
	w := m.worlds[m.synced]
	value, found := w[at]
	f := w.tenants()
	root, _ := forest.Root(f)
	outer, inner, _ := forest.Prove(f, []byte(at.name), []byte(at.key))
	return api.Reply{Turn: m.synced, Found: found, Value: []byte(value), Root: root, Outer: outer, Inner: inner}
}

func (v *visitor) write(c change) api.Errno {
	for i, old := range v.changes {
		if old.spot == c.spot {
			v.changes[i] = c
			return api.OK
		}
	}
	if len(v.changes) >= api.MaxWrites {
		return api.ErrFull
	}
	v.changes = append(v.changes, c)
	return api.OK
}

func (v *visitor) note(g glance) api.Errno {
	if slices.Contains(v.glances, g) {
		return api.OK
	}
	if len(v.glances) >= api.MaxReads {
		return api.ErrFull
	}
	v.glances = append(v.glances, g)
	return api.OK
}

func (m *model) get(v *visitor, at spot) api.Reply {
	for _, c := range v.changes {
		if c.spot == at {
			return api.Reply{Turn: v.start, Found: !c.gone, Value: []byte(c.value)}
		}
	}
	value, found := m.worlds[v.start][at]
	return api.Reply{Code: v.note(glance{spot: at}), Turn: v.start, Found: found, Value: []byte(value)}
}

func (m *model) scan(v *visitor, at spot, last string) api.Reply {
	g := glance{at, true, last}
	seen := world{}
	for s, value := range m.worlds[v.start] {
		if g.meets(s) {
			seen[s] = value
		}
	}
	for _, c := range v.changes {
		if g.meets(c.spot) {
			seen.set(c)
		}
		if len(seen) > api.MaxPairs {
			return no(api.ErrFull)
		}
	}
	r := api.Reply{Code: v.note(g), Turn: v.start}
	for _, t := range seen.tenants() {
		r.Pairs = t.Pairs
	}
	return r
}

func (g glance) meets(s spot) bool {
	if g.wide {
		return s.name == g.name && g.key <= s.key && s.key <= g.last
	}
	return s == g.spot
}

func (m *model) commit(x int) (r api.Reply, waits bool) {
	v := m.visitors[x]
	if len(v.changes) == 0 {
		m.visitors[x] = visitor{}
		return api.Reply{Turn: v.start}, false
	}
	if len(m.queue) >= api.MaxQueue || len(m.commits) >= api.MaxCommits {
		return no(api.ErrFull), false
	}
	m.visitors[x] = visitor{}
	for _, later := range m.commits[v.start:] {
		for _, c := range later {
			for _, g := range v.glances {
				if g.meets(c.spot) {
					return no(api.ErrClash), false
				}
			}
		}
	}
	next := maps.Clone(m.worlds[len(m.commits)])
	for _, c := range v.changes {
		next.set(c)
		if !next.fits(c.name) {
			return no(api.ErrFull), false
		}
	}
	m.commits, m.worlds = append(m.commits, v.changes), append(m.worlds, next)
	m.queue = append(m.queue, x)
	m.visitors[x].waits = true
	return api.Reply{}, true
}

func (w world) set(c change) {
	if c.gone {
		delete(w, c.spot)
	} else {
		w[c.spot] = c.value
	}
}

// fits: not too many pairs of a name, nor too many names.
func (w world) fits(name string) bool {
	names := map[string]int{}
	for s := range w {
		names[s.name]++
	}
	return names[name] <= api.MaxPairs && len(names) <= api.MaxTenants
}

func (w world) tenants() []api.Tenant {
	spots := slices.SortedFunc(maps.Keys(w), func(a, b spot) int {
		return cmp.Or(cmp.Compare(a.name, b.name), cmp.Compare(a.key, b.key))
	})
	var out []api.Tenant
	for _, s := range spots {
		if len(out) == 0 || string(out[len(out)-1].Name) != s.name {
			out = append(out, api.Tenant{Name: []byte(s.name)})
		}
		t := &out[len(out)-1]
		t.Pairs = append(t.Pairs, api.Pair{Key: []byte(s.key), Value: []byte(w[s])})
	}
	return out
}

func (m *model) outcome() api.Outcome {
	return api.Outcome{Up: !m.down, Turn: m.synced, Pending: len(m.queue), Forest: m.worlds[m.synced].tenants(), Replies: m.replies}
}
