package promises

import (
	"fmt"
	"math/rand"
	"sort"
	"strings"
	"testing"

	"gateway/api"
	"gateway/gateway"
)

// A second telling of P15 and P16, byte by byte, which long random walks of pieces are held against.

type tag struct {
	side, src, dst, proto, number int
}

type shelved struct {
	given         bool
	deadline, end int
	come          map[int]bool
	pieces        map[int]packet
}

type shelf struct {
	perSource, global int
	waits             map[tag]*shelved
}

func tagOf(side int, p packet) tag { return tag{side, p.src, p.dst, p.proto, p.number} }

func (s *shelf) held(src int) (int, int) {
	all, some := 0, 0
	for k, d := range s.waits {
		bytes := len(d.come) + 16*len(d.pieces)
		all += bytes
		if k.src == src {
			some += bytes
		}
	}
	return all, some
}

// odd tells whether a piece does not go with what has come.
func (d *shelved) odd(p packet) bool {
	start := p.place % 8192 * 8
	end := start + len(p.body)
	for n := start; n < end; n++ {
		if d.come[n] {
			return true
		}
	}
	last := p.place&more == 0
	for n := range d.come {
		if last && n >= end {
			return true
		}
	}
	return end > 65535 || d.end > 0 && (last || end > d.end)
}

// take tells what becomes of a piece; api.Sent, and all pieces, if all is there now.
func (s *shelf) take(side int, p packet, now int) (int, []packet) {
	k := tagOf(side, p)
	start := p.place % 8192 * 8
	end := start + len(p.body)
	d := s.waits[k]
	if d != nil {
		h, there := d.pieces[start]
		switch {
		case d.given:
			return api.Poisoned, nil
		case there && h.body == p.body && h.place&more == p.place&more:
			return api.Copy, nil
		case d.odd(p):
			s.waits[k] = &shelved{given: true, deadline: now + 6}
			return api.Overlap, nil
		case len(d.pieces) == 6:
			return api.NoRoom, nil
		}
	}
	all, some := s.held(p.src)
	switch {
	case all+len(p.body)+16 > s.global || some+len(p.body)+16 > s.perSource:
		return api.Quota, nil
	case d == nil && len(s.waits) == 4:
		return api.NoRoom, nil
	case end > 65535:
		s.waits[k] = &shelved{given: true, deadline: now + 6}
		return api.Overlap, nil
	}
	if d == nil {
		d = &shelved{deadline: now + 6, come: map[int]bool{}, pieces: map[int]packet{}}
		s.waits[k] = d
	}
	for n := start; n < end; n++ {
		d.come[n] = true
	}
	d.pieces[start] = p
	if p.place&more == 0 {
		d.end = end
	}
	if d.end == 0 {
		return api.Held, nil
	}
	for n := range d.end {
		if !d.come[n] {
			return api.Held, nil
		}
	}
	delete(s.waits, k)
	return api.Sent, d.inOrder()
}

func (d *shelved) inOrder() []packet {
	list := []packet{}
	for _, p := range d.pieces {
		list = append(list, p)
	}
	sort.Slice(list, func(i, j int) bool { return list[i].place%8192 < list[j].place%8192 })
	return list
}

func (s *shelf) tick(now int) {
	for k, d := range s.waits {
		if d.deadline <= now {
			delete(s.waits, k)
		}
	}
}

func (s *shelf) show() string {
	blocks := []string{}
	for k, d := range s.waits {
		given := 0
		if d.given {
			given = 1
		}
		// What it is sorted by stands first, in columns, and is cut off again.
		text := fmt.Sprintf("%d%12d%12d%4d%6d", k.side, k.src, k.dst, k.proto, k.number)
		text += fmt.Sprintf("waits %d %d %d %d %d %d %d\n", k.side, k.src, k.dst, k.proto, k.number, given, d.deadline)
		for _, p := range d.inOrder() {
			text += fmt.Sprintf("piece %d %d\n", p.place%8192*8, len(p.body))
		}
		blocks = append(blocks, text)
	}
	sort.Strings(blocks)
	for i, text := range blocks {
		blocks[i] = text[strings.Index(text, "w"):]
	}
	return strings.Join(blocks, "")
}

// read is a message's ends and flags, and what speaks against it (P5, P13, P14) or api.Sent; no errors that came in one piece are asked about here.
func read(side int, p packet) (ends, int, int) {
	e := ends{proto: p.proto, src: p.src, dst: p.dst}
	covered, flags := p.body, 0
	n := len(p.body)
	if p.proto == api.ICMP && n < 8 || p.proto == api.UDP && n < 8 || p.proto == api.TCP && n < 20 {
		return e, 0, api.BadBody
	}
	two := func(at int) int { return int(p.body[at])*256 + int(p.body[at+1]) }
	if p.proto != api.ICMP {
		covered += strings.Repeat("\x00", n%2) + p.pseudo()
		e.from, e.to = two(0), two(2)
		flags = int(p.body[13%n])
		size := int(p.body[12%n]) / 16 * 4
		if e.from == 0 || e.to == 0 || p.proto == api.UDP && two(4) != n || p.proto == api.TCP && (size < 20 || size > n) {
			return e, 0, api.BadBody
		}
	}
	if folded(covered) != 65535 && !(p.proto == api.UDP && two(6) == 0) {
		return e, 0, api.BadSum
	}
	if p.proto == api.ICMP {
		switch {
		case p.body[:2] != "\x08\x00" && p.body[:2] != "\x00\x00":
			return e, 0, api.BadBody
		case (p.body[0] == 8) != (side == api.Inside):
			return e, 0, api.Unasked
		case p.body[0] == 8:
			e.from = two(4)
		default:
			e.to = two(4)
		}
	}
	return e, flags, api.Sent
}

// tellAll tells what becomes of packets that are a datagram together, and what goes out.
func (w *teller) tellAll(side int, list []packet) (int, []api.Frame) {
	all := list[0]
	all.body = ""
	for _, p := range list {
		all.body += p.body
	}
	e, flags, what := read(side, all)
	if what != api.Sent {
		return what, nil
	}
	what, outSide, o := w.from(side, e, flags)
	if what != api.Sent {
		return what, nil
	}
	none := all.proto == api.UDP && all.body[6:8] == "\x00\x00"
	all.src, all.dst = o.src, o.dst
	switch {
	case all.proto != api.ICMP:
		all.body = put(all.body, 0, word(o.from)+word(o.to))
	case side == api.Inside:
		all.body = put(all.body, 4, word(o.from))
	default:
		all.body = put(all.body, 4, word(o.to))
	}
	if !none {
		all = all.sealed()
	}
	frames := []api.Frame{}
	at := 0
	for _, p := range list {
		p.src, p.dst, p.body = all.src, all.dst, all.body[at:at+len(p.body)]
		at += len(p.body)
		frames = append(frames, goes(outSide, p)...)
	}
	return api.Sent, frames
}

// random datagrams, of few numbers, so that some have the name of others.
func (w *teller) datagram(r *rand.Rand, ports int) (int, packet) {
	side, e := anyEnds(r, ports)
	if len(w.asked) > 0 && r.Intn(3) > 0 {
		side, e = w.askedEnds(r)
	}
	flags := []int{syn, syn, syn, ack, syn | ack, fin, rst}[r.Intn(7)]
	p := e.packet(flags, "")
	p = longer(p, strings.Repeat(letters, 4)[:1+r.Intn(10)*r.Intn(10)])
	if p.proto == api.UDP && r.Intn(4) == 0 {
		p = p.unsummed()
	}
	switch r.Intn(20) {
	case 0:
		n := r.Intn(len(p.body))
		p.body = put(p.body, n, string([]byte{p.body[n] ^ 1}))
	case 1:
		if p.proto == api.ICMP {
			p = p.ofKind([]int{3, 11, 12, 13, 8, 0}[r.Intn(6)], r.Intn(2))
		}
	}
	p.number = r.Intn(3)
	return side, p
}

// inParts cuts a datagram wherever chance will.
func inParts(r *rand.Rand, p packet) []packet {
	places := []int{}
	for at := 8; at < len(p.body); at += 8 {
		if r.Intn(3) == 0 {
			places = append(places, at)
		}
	}
	list := cut(p, places...)
	for i, q := range list {
		if len(q.body) > 140 || len(q.body) > 136 && q.place&more != 0 {
			return inParts(r, p)
		}
		list[i].service = r.Intn(256)
		list[i].lives = 2 + r.Intn(254)
	}
	return list
}

// bent is a piece that mostly does not go with the others.
func bent(r *rand.Rand, p packet) packet {
	switch r.Intn(6) {
	case 0:
		p.place ^= more
		if p.place&more != 0 {
			p.body += strings.Repeat("z", (8-len(p.body)%8)%8)
		}
	case 1:
		p.place += r.Intn(3)
	case 2:
		p.place |= 8191
	case 3:
		n := r.Intn(len(p.body))
		p.body = put(p.body, n, "!")
	case 4:
		if len(p.body) > 8 {
			p.body = p.body[:8]
		}
	case 5:
		p.place ^= 1
	}
	if len(p.body) > 140 {
		p.body = p.body[:136]
	}
	return p
}

type inFlight struct {
	side  int
	parts []packet
}

func walkPieces(t *testing.T, seed int64, steps int) [api.Reasons]int {
	r := rand.New(rand.NewSource(seed))
	ports := 2 + r.Intn(5)
	c := config(ports)
	c.PerSource = []int{120, 200, 400, 1000}[r.Intn(4)]
	c.Global = c.PerSource + []int{0, 50, 200, 1000}[r.Intn(4)]
	b := boxOf(t, c)
	w := &teller{ports: ports, asked: map[ends]*known{}}
	s := &shelf{perSource: c.PerSource, global: c.Global, waits: map[tag]*shelved{}}
	flight := []inFlight{}
	for range steps {
		if r.Intn(8) == 0 {
			n := r.Intn(3) * r.Intn(3)
			tick(t, b, n)
			w.tick(n)
			s.tick(w.now)
		}
		for len(flight) < 1+r.Intn(5) {
			side, p := w.datagram(r, ports)
			flight = append(flight, inFlight{side, inParts(r, p)})
		}
		i := r.Intn(len(flight))
		f := flight[i]
		k := r.Intn(len(f.parts))
		p := f.parts[k]
		switch r.Intn(20) {
		case 0:
			p = bent(r, p)
		case 1:
			// It comes once more, later.
		default:
			f.parts = append(append([]packet{}, f.parts[:k]...), f.parts[k+1:]...)
			flight[i] = f
		}
		if len(f.parts) == 0 {
			flight = append(flight[:i], flight[i+1:]...)
		}
		stepPieces(t, r, b, w, s, f.side, p)
	}
	if counts(b) != w.counts {
		t.Fatalf("seed %d: counts %v, want %v", seed, counts(b), w.counts)
	}
	return w.counts
}

// stepPieces: a packet comes, and all that can be asked of the box is as it is told.
func stepPieces(t *testing.T, r *rand.Rand, b *gateway.Box, w *teller, s *shelf, side int, p packet) {
	t.Helper()
	what, list := api.Sent, []packet{p}
	if p.place&(more|8191) != 0 {
		what, list = s.take(side, p, w.now)
	} else if p.proto == api.ICMP && (p.body[0] == 3 || p.body[0] == 11 || p.body[0] == 12) {
		// Of errors in one piece other walks tell.
		return
	}
	var frames []api.Frame
	if what == api.Sent {
		what, frames = w.tellAll(side, list)
	}
	w.counts[what]++
	receive(t, b, side, p.raw(), what, frames)
	if got, want := b.Show(), w.show()+s.show(); got != want {
		t.Fatalf("Show = %q, want %q", got, want)
	}
	for _, src := range []int{p.src, net + r.Intn(4), far} {
		all, some := s.held(src)
		held(t, b, src, all, some)
	}
}

func TestWalksOfPieces(t *testing.T) {
	total := [api.Reasons]int{}
	for seed := range 60 {
		for what, n := range walkPieces(t, int64(seed), 1500) {
			total[what] += n
		}
	}
	t.Log(total)
	for _, what := range []int{api.Sent, api.Held, api.BadSum, api.Poisoned, api.Overlap, api.Copy, api.Quota, api.NoRoom, api.BadBody, api.NoSession, api.NoPort, api.Unasked, api.Filtered} {
		if total[what] < 20 {
			t.Errorf("only %d packets became %d", total[what], what)
		}
	}
}
