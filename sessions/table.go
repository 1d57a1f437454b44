package sessions

import (
	"gateway/api"
	"gateway/wire"
)

// Table holds the sessions, in the order in which they are shown.
type Table struct {
	list []Session
}

func (t *Table) find(proto int, inner, far wire.End) int {
	for i, s := range t.list {
		if s.proto == proto && s.inner == inner && s.far == far {
			return i
		}
	}
	return -1
}

// Has tells whether the inner end has a session to the far end.
func (t *Table) Has(proto int, inner, far wire.End) bool {
	return t.find(proto, inner, far) >= 0
}

// Full tells whether no further session may begin.
func (t *Table) Full() bool {
	return len(t.list) >= api.MaxSessions
}

// Outer is an inner end's outer port, or 0 if it has none.
func (t *Table) Outer(proto int, inner wire.End) int {
	for _, s := range t.list {
		if s.proto == proto && s.inner == inner {
			return s.port
		}
	}
	return 0
}

// Inner is the inner end that has an outer port, and whether there is one.
func (t *Table) Inner(proto, port int) (wire.End, bool) {
	for _, s := range t.list {
		if s.proto == proto && s.port == port {
			return s.inner, true
		}
	}
	return wire.End{}, false
}

// Free is the lowest port from lo to hi that no inner end has, or 0 if there is none.
func (t *Table) Free(proto, lo, hi int) int {
	for port := lo; port <= hi; port++ {
		_, taken := t.Inner(proto, port)
		if !taken {
			return port
		}
	}
	return 0
}

// Begin lays down a session that is not there yet; its deadline is set by its first message.
func (t *Table) Begin(proto int, inner, far wire.End, port int) {
	fresh := Session{proto: proto, inner: inner, far: far, port: port, talk: firstTalk(proto)}
	list := []Session{}
	laid := false
	for _, s := range t.list {
		if !laid && fresh.before(s) {
			list = append(list, fresh)
			laid = true
		}
		list = append(list, s)
	}
	if !laid {
		list = append(list, fresh)
	}
	t.list = list
}

// Pass lets a message that came from a side go by its session: that stands as the message makes it, and rests anew. The flags count for TCP alone.
func (t *Table) Pass(proto int, inner, far wire.End, side, flags, now int) {
	i := t.find(proto, inner, far)
	if i < 0 {
		return
	}
	s := t.list[i]
	if proto == api.TCP {
		s.talk = s.talk.behind(side, flags)
	}
	s.deadline = now + s.ticks()
	t.list[i] = s
}

// Expire drops the sessions whose deadline has come.
func (t *Table) Expire(now int) {
	list := []Session{}
	for _, s := range t.list {
		if s.deadline > now {
			list = append(list, s)
		}
	}
	t.list = list
}

// Show tells each session in a line.
func (t *Table) Show() string {
	text := ""
	for _, s := range t.list {
		text += s.line()
	}
	return text
}
