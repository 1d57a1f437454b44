// Package pieces keeps the pieces of datagrams till all of a datagram is there.
package pieces

import (
	"gateway/api"
	"gateway/wire"
)

// Store holds the datagrams that wait or were given up, in the order in which they are shown.
type Store struct {
	list []partial
}

// Take takes a piece that came at a side: what becomes of it, or api.Sent if all of its datagram is there. Then all pieces of that stand beside, by where they lie, and are no longer held.
func (s *Store) Take(side int, p wire.Packet, c api.Config, now int) (int, []wire.Packet) {
	n := nameOf(side, p)
	d := s.find(n)
	what := s.fault(d, p, c)
	if what == api.Overlap {
		s.drop(n)
		s.lay(partial{name: n, givenUp: true, deadline: now + api.PieceTicks})
	}
	if what != api.Sent {
		return what, nil
	}
	if len(d.held) == 0 {
		d = partial{name: n, deadline: now + api.PieceTicks}
	}
	d = d.with(p)
	s.drop(n)
	if d.whole() {
		return api.Sent, d.held
	}
	s.lay(d)
	return api.Held, nil
}

// fault is what speaks against holding one more piece of a datagram, or api.Sent if nothing does.
func (s *Store) fault(d partial, p wire.Packet, c api.Config) int {
	if d.givenUp {
		return api.Poisoned
	}
	if d.has(p) {
		return api.Copy
	}
	if d.clashes(p) {
		return api.Overlap
	}
	if len(d.held) >= api.MaxPieces {
		return api.NoRoom
	}
	if s.tooMuch(p, c) {
		return api.Quota
	}
	if len(d.held) == 0 && len(s.list) >= api.MaxKeys {
		return api.NoRoom
	}
	if p.End() > lastEnd {
		return api.Overlap
	}
	return api.Sent
}

// tooMuch tells whether more would be held with a piece than may be, of its source or of all.
func (s *Store) tooMuch(p wire.Packet, c api.Config) bool {
	all, some := s.Held(p.Src)
	more := cost(p)
	return some+more > c.PerSource || all+more > c.Global
}

// Held is how many bytes are held, of all and of a source.
func (s *Store) Held(src int) (int, int) {
	all := 0
	some := 0
	for _, d := range s.list {
		bytes := d.cost()
		all += bytes
		if d.name.src == src {
			some += bytes
		}
	}
	return all, some
}

// find is the datagram of a name; one of which nothing is held, if it is not there.
func (s *Store) find(n name) partial {
	for _, d := range s.list {
		if d.name == n {
			return d
		}
	}
	return partial{}
}

func (s *Store) drop(n name) {
	list := []partial{}
	for _, d := range s.list {
		if d.name != n {
			list = append(list, d)
		}
	}
	s.list = list
}

// lay lays down a datagram that is not there.
func (s *Store) lay(fresh partial) {
	list := []partial{}
	laid := false
	for _, d := range s.list {
		if !laid && fresh.name.before(d.name) {
			list = append(list, fresh)
			laid = true
		}
		list = append(list, d)
	}
	if !laid {
		list = append(list, fresh)
	}
	s.list = list
}

// Expire drops the datagrams whose deadline has come.
func (s *Store) Expire(now int) {
	list := []partial{}
	for _, d := range s.list {
		if d.deadline > now {
			list = append(list, d)
		}
	}
	s.list = list
}

// Show tells each datagram in a line, and behind it its pieces.
func (s *Store) Show() string {
	text := ""
	for _, d := range s.list {
		text += d.lines()
	}
	return text
}
