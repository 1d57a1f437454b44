package promises

import (
	"fmt"
	"strings"
	"testing"

	"gateway/api"
	"gateway/gateway"
)

// at is a piece of a datagram that lies at a place, in bytes; flags is more or 0.
func at(p packet, place, flags int, body string) packet {
	p.place = flags | place/8
	p.body = body
	return p
}

// part is a piece of a datagram, from a byte up to another. Each has a header of its own.
func part(p packet, from, upto int) packet {
	flags := more
	if upto == len(p.body) {
		flags = 0
	}
	q := at(p, from, flags|dontCut*(from/8%2), p.body[from:upto])
	q.service = (p.service + from) % 256
	q.lives = 100 + from/8
	return q
}

// cut is a datagram in pieces, cut at these bytes.
func cut(p packet, places ...int) []packet {
	list := []packet{}
	from := 0
	for _, upto := range append(places, len(p.body)) {
		list = append(list, part(p, from, upto))
		from = upto
	}
	return list
}

// allGo is what goes out for pieces.
func allGo(side int, list []packet) []api.Frame {
	frames := []api.Frame{}
	for _, p := range list {
		frames = append(frames, goes(side, p)...)
	}
	return frames
}

// longer is a packet with more data behind its message.
func longer(p packet, data string) packet {
	p.body += data
	if p.proto == api.UDP {
		p.body = put(p.body, 4, word(len(p.body)))
	}
	return p.sealed()
}

func holds(t *testing.T, b *gateway.Box, side int, list ...packet) {
	t.Helper()
	for _, p := range list {
		receive(t, b, side, p.raw(), api.Held, nil)
	}
}

func held(t *testing.T, b *gateway.Box, src, all, some int) {
	t.Helper()
	if n, m := b.Held(src); n != all || m != some {
		t.Fatalf("Held(%d) = %d, %d, want %d, %d", src, n, m, all, some)
	}
}

func waits(side int, p packet, given, deadline int) string {
	return fmt.Sprintf("waits %d %d %d %d %d %d %d", side, p.src, p.dst, p.proto, p.number, given, deadline)
}

func piece(place, size int) string { return fmt.Sprintf("piece %d %d", place, size) }

// orders are all orders of n things.
func orders(n int) [][]int {
	if n == 0 {
		return [][]int{{}}
	}
	all := [][]int{}
	for _, o := range orders(n - 1) {
		for k := range n {
			next := append([]int{}, o[:k]...)
			next = append(next, n-1)
			all = append(all, append(next, o[k:]...))
		}
	}
	return all
}

// wide is a box that may hold as much as any.
func wide(t *testing.T, ports int) *gateway.Box {
	t.Helper()
	c := config(ports)
	c.PerSource, c.Global = 4096, 4096
	return boxOf(t, c)
}

const letters = "abcdefghijklmnopqrstuvwxyz0123456789"

// A pair of datagrams: how one comes at a side, and how it goes out at another.
type trip struct {
	side    int
	comes   packet
	outSide int
	goes    packet
}

// trips is a box with sessions of all kinds, and a datagram of each kind that goes by them.
func trips(t *testing.T) (*gateway.Box, []trip) {
	t.Helper()
	b := wide(t, 3)
	asks(t, b, net+1, 9, far, 53, lo)
	asks(t, b, net+2, 9, far, 53, lo+1)
	calls(t, b, net+1, 9, far, 80, api.SYN, lo)
	pings(t, b, net+1, 7, far, lo)
	drops(t, b, api.Inside, udp(net+1, 9, out, lo+1, "x"), api.Filtered)
	return b, []trip{
		{api.Inside, udp(net+1, 9, far, 53, letters), api.Outside, udp(out, lo, far, 53, letters)},
		{api.Inside, udp(net+1, 9, far, 53, letters).unsummed(), api.Outside, udp(out, lo, far, 53, letters).unsummed()},
		{api.Outside, udp(far, 53, out, lo, letters), api.Inside, udp(far, 53, net+1, 9, letters)},
		{api.Outside, udp(far, 53, out, lo, letters).unsummed(), api.Inside, udp(far, 53, net+1, 9, letters).unsummed()},
		{api.Inside, longer(tcp(net+1, 9, far, 80, api.ACK), letters), api.Outside, longer(tcp(out, lo, far, 80, api.ACK), letters)},
		{api.Outside, longer(tcp(far, 80, out, lo, api.ACK), letters), api.Inside, longer(tcp(far, 80, net+1, 9, api.ACK), letters)},
		{api.Inside, icmp(8, net+1, far, 7, letters), api.Outside, icmp(8, out, far, lo, letters)},
		{api.Outside, icmp(0, far, out, lo, letters), api.Inside, icmp(0, far, net+1, 7, letters)},
		{api.Inside, udp(net+2, 9, out, lo, letters), api.Inside, udp(out, lo+1, net+1, 9, letters)},
	}
}

// In whatever order pieces come, all is held till the last one, and then all goes out by where it lies, each piece with its own header.
func TestP15AnyOrder(t *testing.T) {
	_, list := trips(t)
	for i := range list {
		for _, places := range [][]int{{8}, {16}, {40}, {8, 16, 24}, {8, 16, 40}, {16, 24, 32}} {
			for _, order := range orders(len(places) + 1) {
				b, list := trips(t)
				l := list[i]
				come, wanted := cut(l.comes, places...), cut(l.goes, places...)
				before, bytes := b.Show(), 0
				for _, k := range order[1:] {
					holds(t, b, l.side, come[k])
					bytes += 16 + len(come[k].body)
					held(t, b, l.comes.src, bytes, bytes)
				}
				receive(t, b, l.side, come[order[0]].raw(), api.Sent, allGo(l.outSide, wanted))
				held(t, b, l.comes.src, 0, 0)
				// Its session was there, and rests from the same time on; but one to a neighbour begins.
				if s := b.Show(); s != before && l.outSide != l.side {
					t.Fatalf("Show = %q, want %q", s, before)
				}
			}
		}
	}
}

// A datagram may be cut wherever pieces can be, its last one being of any length.
func TestP15AnyCut(t *testing.T) {
	for size := range 90 {
		data := strings.Repeat(letters, 3)[:size]
		p, q := udp(net+1, 9, far, 53, data), udp(out, lo, far, 53, data)
		for place := 8; place < len(p.body); place += 8 {
			b := box(t, 1)
			holds(t, b, api.Inside, cut(p, place)[0])
			receive(t, b, api.Inside, cut(p, place)[1].raw(), api.Sent, allGo(api.Outside, cut(q, place)))
			shows(t, b, "time 0", session(17, net+1, 9, lo, far, 53, 0, 30))
		}
	}
}

// Six pieces, each as long as may be.
func TestP15Greatest(t *testing.T) {
	data := strings.Repeat("\xfe\x01z", 300)[:5*136+140-8]
	b := wide(t, 1)
	p, q := udp(net+1, 9, far, 53, data), udp(out, lo, far, 53, data)
	places := []int{136, 272, 408, 544, 680}
	come := cut(p, places...)
	holds(t, b, api.Inside, come[1:]...)
	held(t, b, net+1, 4*152+156, 4*152+156)
	receive(t, b, api.Inside, come[0].raw(), api.Sent, allGo(api.Outside, cut(q, places...)))
	held(t, b, net+1, 0, 0)
}

// What the session does, it does when the datagram is whole, and by all of the message: the flags of TCP lie in the second piece here.
func TestP15Sessions(t *testing.T) {
	b := box(t, 1)
	syn := cut(tcp(net+1, 9, far, 80, api.SYN), 8)
	holds(t, b, api.Inside, syn[0])
	shows(t, b, "time 0", waits(0, syn[0], 0, 6), piece(0, 8))
	tick(t, b, 2)
	receive(t, b, api.Inside, syn[1].raw(), api.Sent, allGo(api.Outside, cut(tcp(out, lo, far, 80, api.SYN), 8)))
	shows(t, b, "time 2", session(6, net+1, 9, lo, far, 80, 1, 10))
	rst := cut(tcp(far, 80, out, lo, api.RST), 8)
	tick(t, b, 1)
	holds(t, b, api.Outside, rst[1])
	shows(t, b, "time 3", session(6, net+1, 9, lo, far, 80, 1, 10), waits(1, rst[0], 0, 9), piece(8, 12))
	tick(t, b, 1)
	receive(t, b, api.Outside, rst[0].raw(), api.Sent, allGo(api.Inside, cut(tcp(far, 80, net+1, 9, api.RST), 8)))
	shows(t, b, "time 4", session(6, net+1, 9, lo, far, 80, 3, 9))
	// Pieces that wait keep no session.
	holds(t, b, api.Inside, cut(tcp(net+1, 9, far, 80, api.ACK), 8)[0])
	tick(t, b, 5)
	shows(t, b, "time 9", waits(0, syn[0], 0, 10), piece(0, 8))
	receive(t, b, api.Inside, cut(tcp(net+1, 9, far, 80, api.ACK), 8)[1].raw(), api.Unasked, nil)
	shows(t, b, "time 9")
}

// Pieces that differ in a part of the datagram's name belong to other datagrams; what else the header says doesn't matter.
func TestP15Belongs(t *testing.T) {
	p := udp(net+1, 9, far, 53, letters)
	first := cut(p, 16)[0]
	for i, change := range []func(p *packet){
		func(p *packet) { p.src++ },
		func(p *packet) { p.dst++ },
		func(p *packet) { p.proto = api.TCP },
		func(p *packet) { p.number++ },
		func(p *packet) { p.number += 256 },
	} {
		b := box(t, 1)
		other := cut(p, 16)[1]
		change(&other)
		holds(t, b, api.Inside, first, other)
		want := []string{waits(0, first, 0, 6), piece(0, 16), waits(0, other, 0, 6), piece(16, 28)}
		if other.proto == api.TCP {
			want = append(want[2:], want[:2]...)
		}
		shows(t, b, append([]string{"time 0"}, want...)...)
		held(t, b, net+1, 32+44, 32+44-44*(other.src-first.src))
		receive(t, b, api.Inside, cut(p, 16)[1].raw(), api.Sent, allGo(api.Outside, cut(udp(out, lo, far, 53, letters), 16)))
		shows(t, b, "time 0", session(17, net+1, 9, lo, far, 53, 0, 30), waits(0, other, 0, 6), piece(16, 28))
		if i == 0 {
			held(t, b, net+2, 44, 44)
		}
	}
	b := box(t, 1)
	holds(t, b, api.Inside, first)
	in := part(udp(far, 53, out, lo, letters), 16, 44)
	holds(t, b, api.Outside, in)
	shows(t, b, "time 0", waits(0, first, 0, 6), piece(0, 16), waits(1, in, 0, 6), piece(16, 28))
	held(t, b, far, 32+44, 44)
}

// unmoved: the piece is dropped, and all stands as it stood.
func unmoved(t *testing.T, b *gateway.Box, side int, p packet, what int) {
	t.Helper()
	all, some := b.Held(p.src)
	stands(t, b, side, p, what)
	held(t, b, p.src, all, some)
}

func TestP15Copy(t *testing.T) {
	b := box(t, 1)
	p := udp(net+1, 9, far, 53, letters)
	l := cut(p, 16, 32)
	holds(t, b, api.Inside, l[0])
	tick(t, b, 2)
	unmoved(t, b, api.Inside, l[0], api.Copy)
	holds(t, b, api.Inside, l[2])
	tick(t, b, 2)
	other := l[0]
	other.service, other.lives, other.place = 77, 2, other.place^dontCut
	unmoved(t, b, api.Inside, other, api.Copy)
	unmoved(t, b, api.Inside, l[2], api.Copy)
	shows(t, b, "time 4", waits(0, p, 0, 6), piece(0, 16), piece(32, 12))
	// The one that was held goes out, not the copy.
	receive(t, b, api.Inside, l[1].raw(), api.Sent, allGo(api.Outside, cut(udp(out, lo, far, 53, letters), 16, 32)))
	// Then it is no copy any more.
	holds(t, b, api.Inside, l[0])
}

// Each is what is held, and what then does not go with it, or does.
func TestP15Overlap(t *testing.T) {
	p := udp(net+1, 9, far, 53, letters)
	eight, six := letters[:8], letters[:6]
	sixteen := letters[8:24]
	for i, c := range []struct {
		held []packet
		p    packet
		what int
	}{
		// A byte has come already.
		{[]packet{at(p, 8, more, sixteen)}, at(p, 8, more, eight), api.Overlap},
		{[]packet{at(p, 8, more, sixteen)}, at(p, 16, more, eight), api.Overlap},
		{[]packet{at(p, 8, more, sixteen)}, at(p, 0, more, sixteen), api.Overlap},
		{[]packet{at(p, 8, more, sixteen)}, at(p, 16, more, sixteen), api.Overlap},
		{[]packet{at(p, 8, more, eight)}, at(p, 0, more, letters[:24]), api.Overlap},
		{[]packet{at(p, 8, more, sixteen)}, at(p, 8, more, letters[8:32]), api.Overlap},
		{[]packet{at(p, 8, more, sixteen)}, at(p, 0, more, letters[:32]), api.Overlap},
		{[]packet{at(p, 8, more, sixteen)}, at(p, 0, more, eight), api.Held},
		{[]packet{at(p, 8, more, sixteen)}, at(p, 24, more, eight), api.Held},
		{[]packet{at(p, 8, more, sixteen)}, at(p, 32, more, eight), api.Held},
		{[]packet{at(p, 8, more, eight), at(p, 32, more, eight)}, at(p, 16, more, sixteen), api.Held},
		{[]packet{at(p, 8, more, eight), at(p, 32, more, eight)}, at(p, 16, more, letters[:24]), api.Overlap},
		{[]packet{at(p, 8, more, eight), at(p, 32, more, eight)}, at(p, 8, more, letters[:24]), api.Overlap},
		// All but just like one that is held.
		{[]packet{at(p, 8, more, eight)}, at(p, 8, more, "x"+eight[1:]), api.Overlap},
		{[]packet{at(p, 8, more, eight)}, at(p, 8, more, eight[:7]+"x"), api.Overlap},
		{[]packet{at(p, 8, more, eight)}, at(p, 8, 0, eight), api.Overlap},
		{[]packet{at(p, 8, 0, eight)}, at(p, 8, more, eight), api.Overlap},
		{[]packet{at(p, 8, 0, eight)}, at(p, 8, 0, six), api.Overlap},
		{[]packet{at(p, 8, 0, six)}, at(p, 8, 0, eight), api.Overlap},
		{[]packet{at(p, 8, 0, six)}, at(p, 8, 0, six), api.Copy},
		{[]packet{at(p, 8, more, eight)}, at(p, 16, more, eight), api.Held},
		// Bytes that have come, and no others, by pieces that were cut otherwise.
		{[]packet{at(p, 8, more, eight), at(p, 16, more, eight)}, at(p, 8, more, eight+eight), api.Overlap},
		// Beyond the end that is known, or a second one.
		{[]packet{at(p, 16, 0, six)}, at(p, 24, more, eight), api.Overlap},
		{[]packet{at(p, 16, 0, six)}, at(p, 24, 0, "x"), api.Overlap},
		{[]packet{at(p, 16, 0, six)}, at(p, 64, more, eight), api.Overlap},
		{[]packet{at(p, 16, 0, eight)}, at(p, 24, more, eight), api.Overlap},
		{[]packet{at(p, 16, 0, six)}, at(p, 8, 0, eight), api.Overlap},
		{[]packet{at(p, 16, 0, six)}, at(p, 8, 0, six), api.Overlap},
		{[]packet{at(p, 16, 0, six)}, at(p, 8, more, eight), api.Held},
		{[]packet{at(p, 32, 0, six)}, at(p, 8, 0, six), api.Overlap},
		{[]packet{at(p, 32, 0, six)}, at(p, 8, more, eight), api.Held},
		{[]packet{at(p, 16, 0, six), at(p, 8, more, eight)}, at(p, 24, more, eight), api.Overlap},
		{[]packet{at(p, 8, more, eight), at(p, 16, 0, six)}, at(p, 24, more, eight), api.Overlap},
		// An end below what is held.
		{[]packet{at(p, 16, more, eight)}, at(p, 8, 0, eight), api.Overlap},
		{[]packet{at(p, 16, more, eight)}, at(p, 8, 0, "x"), api.Overlap},
		{[]packet{at(p, 64, more, eight)}, at(p, 8, 0, eight), api.Overlap},
		{[]packet{at(p, 16, more, eight)}, at(p, 24, 0, "x"), api.Held},
		{[]packet{at(p, 16, more, eight)}, at(p, 64, 0, "x"), api.Held},
		{[]packet{at(p, 0, more, eight), at(p, 32, more, eight)}, at(p, 8, 0, six), api.Overlap},
		{[]packet{at(p, 32, more, eight), at(p, 0, more, eight)}, at(p, 8, 0, six), api.Overlap},
		// Beyond 65,535.
		{[]packet{at(p, 8, more, eight)}, at(p, 65528, 0, letters[:7]), api.Held},
		{[]packet{at(p, 8, more, eight)}, at(p, 65528, 0, eight), api.Overlap},
		{[]packet{at(p, 8, more, eight)}, at(p, 65528, more, eight), api.Overlap},
		{[]packet{at(p, 8, more, eight)}, at(p, 65520, more, eight), api.Held},
		{[]packet{at(p, 8, more, eight)}, at(p, 65520, 0, letters[:15]), api.Held},
		{[]packet{at(p, 8, more, eight)}, at(p, 65520, 0, sixteen), api.Overlap},
		{[]packet{at(p, 8, more, eight)}, at(p, 65520, more, sixteen), api.Overlap},
	} {
		b := box(t, 1)
		holds(t, b, api.Inside, c.held...)
		tick(t, b, 4)
		what, frames := b.Receive(api.Inside, c.p.raw())
		if what != c.what || len(frames) != 0 {
			t.Fatalf("case %d: %d, %x, want %d", i, what, frames, c.what)
		}
		if what == api.Overlap {
			shows(t, b, "time 4", waits(0, p, 1, 10))
			held(t, b, net+1, 0, 0)
		}
	}
}

// Of a datagram that was given up nothing comes through till it is gone, and its deadline stays.
func TestP15GivenUp(t *testing.T) {
	p, q := udp(net+1, 9, far, 53, letters), udp(out, lo, far, 53, letters)
	l := cut(p, 16, 32)
	b := box(t, 1)
	other := udp(net+1, 9, far, 53, letters)
	other.number = 99
	holds(t, b, api.Inside, l[0], l[2], cut(other, 8)[0])
	tick(t, b, 5)
	drops(t, b, api.Inside, at(p, 8, more, "12345678"), api.Overlap)
	shows(t, b, "time 5", waits(0, p, 1, 11), waits(0, other, 0, 6), piece(0, 8))
	held(t, b, net+1, 24, 24)
	for n := range 6 {
		for _, r := range l {
			unmoved(t, b, api.Inside, r, api.Poisoned)
		}
		unmoved(t, b, api.Inside, at(p, 8, more, "12345678"), api.Poisoned)
		unmoved(t, b, api.Inside, at(p, 65528, more, "12345678"), api.Poisoned)
		unmoved(t, b, api.Inside, at(p, 0, more, strings.Repeat("z", 136)), api.Poisoned)
		want := []string{"time " + itoa(5+n), waits(0, p, 1, 11)}
		if n == 0 {
			want = append(want, waits(0, other, 0, 6), piece(0, 8))
		}
		shows(t, b, want...)
		tick(t, b, 1)
	}
	shows(t, b, "time 11")
	holds(t, b, api.Inside, l[0], l[2])
	receive(t, b, api.Inside, l[1].raw(), api.Sent, allGo(api.Outside, cut(q, 16, 32)))
	// A packet of the same number that is no piece is none of the datagram.
	holds(t, b, api.Inside, l[1])
	drops(t, b, api.Inside, at(p, 16, more, "12345678"), api.Overlap)
	sends(t, b, api.Inside, p, api.Outside, q)
	shows(t, b, "time 11", session(17, net+1, 9, lo, far, 53, 0, 41), waits(0, p, 1, 17))
}

// The first piece that comes may be beyond the end that a datagram can have.
func TestP15BeyondAtFirst(t *testing.T) {
	p := udp(net+1, 9, far, 53, letters)
	for size := 1; size <= 20; size++ {
		for _, place := range []int{65528, 65520, 65512} {
			for _, flags := range []int{0, more} {
				if flags == more && size%8 != 0 {
					continue
				}
				b := box(t, 1)
				tick(t, b, 3)
				q := at(p, place, flags, letters[:size])
				if place+size > 65535 {
					drops(t, b, api.Inside, q, api.Overlap)
					shows(t, b, "time 3", waits(0, p, 1, 9))
					held(t, b, net+1, 0, 0)
					unmoved(t, b, api.Inside, q, api.Poisoned)
					unmoved(t, b, api.Inside, cut(p, 8)[0], api.Poisoned)
					tick(t, b, 5)
					unmoved(t, b, api.Inside, q, api.Poisoned)
					tick(t, b, 1)
					holds(t, b, api.Inside, cut(p, 8)[0])
					continue
				}
				holds(t, b, api.Inside, q)
				shows(t, b, "time 3", waits(0, p, 0, 9), piece(place, size))
			}
		}
	}
}

// The seventh piece is one too many, even if it were the last that is missing.
func TestP15SevenPieces(t *testing.T) {
	p := udp(net+1, 9, far, 53, letters+letters)
	l := cut(p, 8, 16, 24, 32, 40, 48)
	for last := range l {
		b := box(t, 1)
		for k, q := range l {
			if k != last {
				holds(t, b, api.Inside, q)
			}
		}
		unmoved(t, b, api.Inside, l[last], api.NoRoom)
		unmoved(t, b, api.Inside, l[(last+1)%7], api.Copy)
		// Whoever has six may still be given up.
		place := (last + 1) % 6 * 8
		if place == last*8 {
			place += 8
		}
		drops(t, b, api.Inside, at(p, place, more, "12345678"), api.Overlap)
		shows(t, b, "time 0", waits(0, p, 1, 6))
		unmoved(t, b, api.Inside, l[last], api.Poisoned)
	}
	// The sixth is not.
	six := udp(net+1, 9, far, 53, letters)
	b := box(t, 1)
	m := cut(six, 8, 16, 24, 32, 40)
	holds(t, b, api.Inside, m[:5]...)
	receive(t, b, api.Inside, m[5].raw(), api.Sent, allGo(api.Outside, cut(udp(out, lo, far, 53, letters), 8, 16, 24, 32, 40)))
}

// small is a box with quotas.
func small(t *testing.T, perSource, global int) *gateway.Box {
	t.Helper()
	c := config(2)
	c.PerSource, c.Global = perSource, global
	return boxOf(t, c)
}

func TestP15PerSource(t *testing.T) {
	p := udp(net+1, 9, far, 53, letters)
	l := cut(p, 16, 24)
	other := p
	other.number++
	for _, quota := range []int{31, 32, 55, 56, 91, 92} {
		b := small(t, quota, 4096)
		needs := 0
		for _, q := range []packet{l[0], cut(other, 8, 16)[1], l[2]} {
			needs += 16 + len(q.body)
			if needs > quota {
				unmoved(t, b, api.Inside, q, api.Quota)
				break
			}
			holds(t, b, api.Inside, q)
			held(t, b, net+1, needs, needs)
		}
		if quota >= 32 {
			// Of another source there is as much room again.
			all, _ := b.Held(net + 1)
			holds(t, b, api.Inside, cut(udp(net+2, 9, far, 53, letters), 16)[0])
			held(t, b, net+2, all+32, 32)
		}
	}
	// What makes the datagram whole must fit, too.
	for _, quota := range []int{91, 92} {
		b := small(t, quota, 4096)
		holds(t, b, api.Inside, l[0], l[1])
		if quota == 91 {
			unmoved(t, b, api.Inside, l[2], api.Quota)
			continue
		}
		receive(t, b, api.Inside, l[2].raw(), api.Sent, allGo(api.Outside, cut(udp(out, lo, far, 53, letters), 16, 24)))
		held(t, b, net+1, 0, 0)
	}
}

func TestP15Global(t *testing.T) {
	first, second, third := udp(net+1, 9, far, 53, letters), udp(net+2, 9, far, 53, letters), udp(far, 53, out, lo, letters)
	for _, quota := range []int{87, 88, 111, 112, 113} {
		b := small(t, 80, quota)
		holds(t, b, api.Inside, cut(first, 16)[0])
		last := cut(second, 16, 24)
		holds(t, b, api.Inside, last[0])
		held(t, b, net+2, 64, 32)
		if quota == 87 {
			unmoved(t, b, api.Inside, last[1], api.Quota)
			unmoved(t, b, api.Outside, part(third, 8, 16), api.Quota)
			holds(t, b, api.Inside, at(second, 64, 0, letters[:7]))
			unmoved(t, b, api.Inside, at(first, 64, 0, "x"), api.Quota)
			continue
		}
		holds(t, b, api.Outside, part(third, 8, 16))
		held(t, b, far, 88, 24)
		if quota < 112 {
			unmoved(t, b, api.Inside, last[1], api.Quota)
			continue
		}
		holds(t, b, api.Inside, last[1])
		held(t, b, net+2, 112, 56)
	}
}

// Room is there again when a datagram is whole, is dropped, is given up or is gone.
func TestP15QuotaComesBack(t *testing.T) {
	p := udp(net+1, 9, far, 53, letters)
	big := p
	big.number = 50
	bytes := strings.Repeat("z", 64)
	full := func() *gateway.Box {
		b := small(t, 80, 80)
		holds(t, b, api.Inside, cut(p, 16)[0])
		unmoved(t, b, api.Inside, at(big, 0, more, bytes), api.Quota)
		return b
	}
	b := full()
	receive(t, b, api.Inside, cut(p, 16)[1].raw(), api.Sent, allGo(api.Outside, cut(udp(out, lo, far, 53, letters), 16)))
	holds(t, b, api.Inside, at(big, 0, more, bytes))
	b = full()
	drops(t, b, api.Inside, at(p, 16, 0, "x"), api.BadBody)
	holds(t, b, api.Inside, at(big, 0, more, bytes))
	b = full()
	drops(t, b, api.Inside, at(p, 8, 0, "x"), api.Overlap)
	holds(t, b, api.Inside, at(big, 0, more, bytes))
	held(t, b, net+1, 80, 80)
	b = full()
	tick(t, b, 6)
	holds(t, b, api.Inside, at(big, 0, more, bytes))
}

// number is a packet with another number.
func number(p packet, n int) packet {
	p.number = n
	return p
}

func TestP15FiveDatagrams(t *testing.T) {
	p := udp(net+1, 9, far, 53, letters)
	for gone := range 5 {
		b := wide(t, 1)
		for n := range 4 {
			if n < gone {
				drops(t, b, api.Inside, at(number(p, n), 65528, 0, "12345678"), api.Overlap)
			} else {
				holds(t, b, api.Inside, cut(number(p, n), 16)[0])
			}
		}
		fifth := number(p, 4)
		unmoved(t, b, api.Inside, cut(fifth, 16)[0], api.NoRoom)
		unmoved(t, b, api.Inside, cut(fifth, 16)[1], api.NoRoom)
		unmoved(t, b, api.Inside, at(fifth, 65528, 0, "12345678"), api.NoRoom)
		unmoved(t, b, api.Outside, part(udp(far, 53, out, lo, letters), 0, 8), api.NoRoom)
		sends(t, b, api.Inside, fifth, api.Outside, number(udp(out, lo, far, 53, letters), 4))
		if gone == 4 {
			tick(t, b, 5)
			unmoved(t, b, api.Inside, cut(fifth, 16)[0], api.NoRoom)
			tick(t, b, 1)
			holds(t, b, api.Inside, cut(fifth, 16)[0])
			continue
		}
		// Those that wait go on, and make room.
		holds(t, b, api.Inside, at(number(p, 3), 16, more, letters[:8]))
		unmoved(t, b, api.Inside, cut(fifth, 16)[0], api.NoRoom)
		drops(t, b, api.Inside, at(number(p, 3), 24, 0, letters[:8]), api.BadBody)
		holds(t, b, api.Inside, cut(fifth, 16)[0])
		unmoved(t, b, api.Inside, cut(number(p, 5), 16)[0], api.NoRoom)
	}
}

// Of two things that speak against a piece the one that the document names first is told.
func TestP15Order(t *testing.T) {
	p := udp(net+1, 9, far, 53, letters+letters)
	bytes := strings.Repeat("z", 136)
	// Four datagrams; of the first six pieces are held, the second was given up.
	full := func() *gateway.Box {
		b := small(t, 300, 300)
		for k := range 6 {
			holds(t, b, api.Inside, at(p, 16*k, more, letters[:8]))
		}
		drops(t, b, api.Inside, at(number(p, 2), 65528, 0, "12345678"), api.Overlap)
		holds(t, b, api.Inside, at(number(p, 3), 8, 0, letters[:8]), at(number(p, 4), 8, more, letters[:8]))
		return b
	}
	b := full()
	held(t, b, net+1, 192, 192)
	unmoved(t, b, api.Inside, at(number(p, 2), 65528, 0, bytes), api.Poisoned)
	unmoved(t, b, api.Inside, at(p, 0, more, letters[:8]), api.Copy)
	unmoved(t, b, api.Inside, at(p, 8, more, letters[:8]), api.NoRoom)
	unmoved(t, b, api.Inside, at(p, 96, more, bytes), api.NoRoom)
	unmoved(t, b, api.Inside, at(number(p, 4), 16, more, bytes), api.Quota)
	unmoved(t, b, api.Inside, at(number(p, 5), 0, more, bytes), api.Quota)
	unmoved(t, b, api.Inside, at(number(p, 5), 65528, more, bytes), api.Quota)
	unmoved(t, b, api.Inside, at(number(p, 5), 65528, more, letters[:8]), api.NoRoom)
	unmoved(t, b, api.Inside, at(number(p, 5), 0, more, letters[:8]), api.NoRoom)
	drops(t, b, api.Inside, at(p, 0, more, bytes), api.Overlap)
	b = full()
	drops(t, b, api.Inside, at(p, 65528, 0, bytes), api.Overlap)
	b = full()
	drops(t, b, api.Inside, at(number(p, 3), 16, more, bytes), api.Overlap)
	b = full()
	drops(t, b, api.Inside, at(number(p, 4), 0, more, bytes), api.Overlap)
	// A copy is one, even where there is no room and no quota for it.
	b = small(t, 152, 152)
	holds(t, b, api.Inside, at(p, 0, more, bytes))
	unmoved(t, b, api.Inside, at(p, 0, more, bytes), api.Copy)
	unmoved(t, b, api.Inside, at(p, 136, more, letters[:8]), api.Quota)
	unmoved(t, b, api.Inside, at(number(p, 9), 65528, 0, "12345678"), api.Quota)
	drops(t, b, api.Inside, at(p, 0, more, letters[:8]), api.Overlap)
}

// What speaks against a packet speaks against a piece first, also where its datagram waits or was given up.
func TestP15BadHeaders(t *testing.T) {
	p := udp(net+1, 9, far, 53, letters)
	good := cut(p, 16)[0]
	second := at(p, 16, more, letters[:8])
	for _, given := range []bool{false, true} {
		b := box(t, 1)
		holds(t, b, api.Inside, good)
		if given {
			drops(t, b, api.Inside, at(p, 8, more, letters[:8]), api.Overlap)
		}
		before := b.Show()
		receive(t, b, 2, second.raw(), api.BadSide, nil)
		receive(t, b, api.Inside, second.raw()+"x", api.Malformed, nil)
		receive(t, b, api.Inside, turned(second, 6, word(0x8000|second.place)), api.Malformed, nil)
		receive(t, b, api.Inside, put(second.raw(), 6, word(more|1)), api.BadSum, nil)
		for size := 1; size < 24; size++ {
			if size%8 != 0 {
				drops(t, b, api.Inside, at(p, 16, more, letters[:size]), api.Malformed)
			}
		}
		for lives := range 2 {
			late := second
			late.lives = lives
			drops(t, b, api.Inside, late, api.Expired)
		}
		drops(t, b, api.Outside, second, api.BadAddr)
		strange := second
		strange.dst = net + 2
		drops(t, b, api.Inside, strange, api.BadAddr)
		strange = second
		strange.proto = 2
		drops(t, b, api.Inside, strange, api.BadProto)
		if s := b.Show(); s != before {
			t.Fatalf("Show = %q, want %q", s, before)
		}
	}
}

// The deadline is six units behind the first piece, whatever comes later.
func TestP15Deadlines(t *testing.T) {
	p, q := udp(net+1, 9, far, 53, letters), udp(out, lo, far, 53, letters)
	l := cut(p, 16, 32)
	for wait := range 9 {
		b := box(t, 1)
		tick(t, b, 100)
		holds(t, b, api.Inside, l[0])
		tick(t, b, wait/2)
		if wait >= 2 {
			tick(t, b, 0)
		}
		holds(t, b, api.Inside, l[2])
		shows(t, b, "time "+itoa(100+wait/2), waits(0, p, 0, 106), piece(0, 16), piece(32, 12))
		tick(t, b, wait-wait/2)
		if wait < 6 {
			shows(t, b, "time "+itoa(100+wait), waits(0, p, 0, 106), piece(0, 16), piece(32, 12))
			receive(t, b, api.Inside, l[1].raw(), api.Sent, allGo(api.Outside, cut(q, 16, 32)))
			continue
		}
		shows(t, b, "time "+itoa(100+wait))
		held(t, b, net+1, 0, 0)
		holds(t, b, api.Inside, l[1])
		shows(t, b, "time "+itoa(100+wait), waits(0, p, 0, 106+wait), piece(16, 16))
	}
}

// A step takes the datagrams whose deadline lies in it, and no others; ticks that are none take nothing.
func TestP15Ticks(t *testing.T) {
	p := udp(net+1, 9, far, 53, letters)
	b := box(t, 1)
	for n := range 4 {
		holds(t, b, api.Inside, cut(number(p, 9-n), 16)[0])
		tick(t, b, 1)
	}
	for _, n := range oddNumbers {
		if n < 0 || n > 1<<20 {
			b.Tick(n)
		}
	}
	shows(t, b, "time 4",
		waits(0, number(p, 6), 0, 9), piece(0, 16), waits(0, number(p, 7), 0, 8), piece(0, 16),
		waits(0, number(p, 8), 0, 7), piece(0, 16), waits(0, number(p, 9), 0, 6), piece(0, 16))
	tick(t, b, 3)
	shows(t, b, "time 7", waits(0, number(p, 6), 0, 9), piece(0, 16), waits(0, number(p, 7), 0, 8), piece(0, 16))
	held(t, b, net+1, 64, 64)
	tick(t, b, 1<<20)
	shows(t, b, "time 1048583")
	held(t, b, net+1, 0, 0)
}
