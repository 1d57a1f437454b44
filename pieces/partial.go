package pieces

import (
	"strconv"

	"gateway/api"
	"gateway/wire"
)

// No datagram goes on beyond this.
const lastEnd = 65535

// name is what all pieces of a datagram have, and no others.
type name struct {
	side, src, dst, proto, number int
}

func nameOf(side int, p wire.Packet) name {
	return name{side: side, src: p.Src, dst: p.Dst, proto: p.Proto, number: p.Number()}
}

// before is the order in which datagrams are shown.
func (n name) before(o name) bool {
	if n.side != o.side {
		return n.side < o.side
	}
	if n.src != o.src {
		return n.src < o.src
	}
	if n.dst != o.dst {
		return n.dst < o.dst
	}
	if n.proto != o.proto {
		return n.proto < o.proto
	}
	return n.number < o.number
}

func (n name) text() string {
	text := strconv.Itoa(n.side)
	text += " " + strconv.Itoa(n.src) + " " + strconv.Itoa(n.dst)
	return text + " " + strconv.Itoa(n.proto) + " " + strconv.Itoa(n.number)
}

// partial is a datagram of which not all has come, or which was given up.
type partial struct {
	name     name
	givenUp  bool
	deadline int
	held     []wire.Packet // by where they lie; none of what was given up
}

// has tells whether a piece just like this one is held.
func (d partial) has(p wire.Packet) bool {
	for _, h := range d.held {
		if h.Place() == p.Place() && h.More() == p.More() && h.Body == p.Body {
			return true
		}
	}
	return false
}

// clashes tells whether a piece can't be of the datagram, by what is held of it.
func (d partial) clashes(p wire.Packet) bool {
	if len(d.held) > 0 && p.End() > lastEnd {
		return true
	}
	for _, h := range d.held {
		if overlap(h, p) || beyond(h, p) || beyond(p, h) {
			return true
		}
	}
	return false
}

func overlap(p, q wire.Packet) bool {
	return p.Place() < q.End() && q.Place() < p.End()
}

// beyond tells whether a piece ends beyond the end that another one tells. (Of two that tell an end, one does so or they overlap.)
func beyond(last, p wire.Packet) bool {
	return !last.More() && p.End() > last.End()
}

// with is the datagram with one more piece, at its place.
func (d partial) with(p wire.Packet) partial {
	list := []wire.Packet{}
	laid := false
	for _, h := range d.held {
		if !laid && p.Place() < h.Place() {
			list = append(list, p)
			laid = true
		}
		list = append(list, h)
	}
	if !laid {
		list = append(list, p)
	}
	d.held = list
	return d
}

// whole tells whether all of the datagram is there. As no pieces overlap and none lies beyond the end, counting the bytes is enough.
func (d partial) whole() bool {
	end := 0
	bytes := 0
	for _, p := range d.held {
		bytes += len(p.Body)
		if !p.More() {
			end = p.End()
		}
	}
	return end > 0 && bytes == end
}

// cost is what a piece counts while it is held.
func cost(p wire.Packet) int {
	return len(p.Body) + api.PieceCost
}

func (d partial) cost() int {
	sum := 0
	for _, p := range d.held {
		sum += cost(p)
	}
	return sum
}

func (d partial) lines() string {
	given := "0"
	if d.givenUp {
		given = "1"
	}
	text := "waits " + d.name.text() + " " + given + " " + strconv.Itoa(d.deadline) + "\n"
	for _, p := range d.held {
		text += "piece " + strconv.Itoa(p.Place()) + " " + strconv.Itoa(len(p.Body)) + "\n"
	}
	return text
}
