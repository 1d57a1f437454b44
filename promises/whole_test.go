package promises

import (
	"strings"
	"testing"

	"gateway/api"
	"gateway/gateway"
)

// comes: a datagram comes in two pieces, in either order, and all together is dropped: then nothing is held, and all else is as it was.
func comes(t *testing.T, b *gateway.Box, side int, p packet, what int) {
	t.Helper()
	for first := range 2 {
		l := cut(p, 8)
		before := b.Show()
		holds(t, b, side, l[first])
		drops(t, b, side, l[1-first], what)
		if s := b.Show(); s != before {
			t.Fatalf("Show = %q, want %q", s, before)
		}
		held(t, b, p.src, 0, 0)
	}
}

func TestP15WholeBodies(t *testing.T) {
	b := box(t, 1)
	// Nine bytes are the fewest that can come in pieces.
	comes(t, b, api.Inside, packet{lives: 9, proto: api.TCP, src: net + 1, dst: far, body: "\x00\x09\x00\x50\x00\x00\x00\x00\x00"}, api.BadBody)
	p := udp(net+1, 9, far, 53, letters)
	for _, n := range []int{0, 8, len(p.body) - 1, len(p.body) + 1, len(p.body) + 256} {
		q := p
		q.body = put(q.body, 4, word(n))
		comes(t, b, api.Inside, q.sealed(), api.BadBody)
	}
	// The length of the UDP message is the whole's, not the piece's.
	short := p
	short.body = put(short.body, 4, word(8))
	comes(t, b, api.Inside, short.unsummed(), api.BadBody)
	comes(t, b, api.Inside, udp(net+1, 0, far, 53, "data"), api.BadBody)
	comes(t, b, api.Inside, udp(net+1, 9, far, 0, "data"), api.BadBody)
	comes(t, b, api.Inside, tcp(net+1, 9, far, 0, api.SYN), api.BadBody)
	for words := range 16 {
		q := longer(tcp(net+1, 9, far, 80, api.SYN), letters[:16])
		q.body = put(q.body, 12, string([]byte{byte(words << 4)}))
		if words < 5 || words > 9 {
			comes(t, b, api.Inside, q.sealed(), api.BadBody)
		}
	}
	comes(t, b, api.Inside, icmp(13, net+1, far, 1, letters), api.BadBody)
	comes(t, b, api.Inside, icmp(8, net+1, far, 1, letters).ofKind(8, 1), api.BadBody)
	comes(t, b, api.Outside, icmp(5, far, out, 1, letters), api.BadBody)
}

// The checksum is of all pieces together, wherever the fault lies.
func TestP15WholeSums(t *testing.T) {
	b := box(t, 1)
	for _, p := range []packet{udp(net+1, 9, far, 53, letters), longer(tcp(net+1, 9, far, 80, api.SYN), letters), icmp(8, net+1, far, 1, letters)} {
		for n := range p.body {
			q := p
			q.body = put(q.body, n, string([]byte{q.body[n] ^ 64}))
			what := api.BadSum
			if p.proto == api.UDP && (n == 4 || n == 5) || p.proto == api.TCP && n == 12 {
				what = api.BadBody
			}
			comes(t, b, api.Inside, q, what)
		}
	}
	shows(t, b, "time 0")
}

// The last piece may be of an odd length: then the checksum's last word has a 0 behind it.
func TestP15OddEnds(t *testing.T) {
	for n := range 9 {
		data := "\xff\xff\xff\xff\xff\xff\xff\xff"[:n] + "\x01"
		p, q := icmp(8, net+1, far, 1, data), icmp(8, out, far, lo, data)
		b := box(t, 1)
		holds(t, b, api.Inside, cut(p, 8)[1])
		receive(t, b, api.Inside, cut(p, 8)[0].raw(), api.Sent, allGo(api.Outside, cut(q, 8)))
	}
}

func TestP15WholeDropped(t *testing.T) {
	b := box(t, 1)
	asks(t, b, net+1, 9, far, 53, lo)
	calls(t, b, net+1, 9, far, 80, api.SYN, lo)
	pings(t, b, net+1, 9, far, lo)
	tick(t, b, 2)
	comes(t, b, api.Inside, udp(net+1, 9, out, lo+1, "data"), api.Unasked)
	comes(t, b, api.Inside, tcp(net+1, 9, far, 81, api.ACK), api.Unasked)
	comes(t, b, api.Inside, udp(net+1, 8, far, 53, "data"), api.NoPort)
	comes(t, b, api.Inside, tcp(net+1, 8, far, 80, api.SYN), api.NoPort)
	comes(t, b, api.Inside, icmp(8, net+1, far, 8, "ping"), api.NoPort)
	comes(t, b, api.Inside, icmp(0, net+1, far, 8, "ping"), api.Unasked)
	comes(t, b, api.Inside, icmp(8, net+1, out, lo, "ping"), api.Unasked)
	comes(t, b, api.Outside, udp(far, 54, out, lo, "data"), api.Unasked)
	comes(t, b, api.Outside, udp(far, 53, out, lo+1, "data"), api.Unasked)
	comes(t, b, api.Outside, tcp(far, 81, out, lo, api.RST), api.Unasked)
	comes(t, b, api.Outside, icmp(8, far, out, lo, "ping"), api.Unasked)
	comes(t, b, api.Outside, icmp(0, far+1, out, lo, "ping"), api.Unasked)
	for n := range 7 {
		asks(t, b, net+1, 9, far+1+n, 53, lo)
	}
	comes(t, b, api.Inside, udp(net+1, 9, far+20, 53, "data"), api.NoSession)
	want := [api.Reasons]int{}
	want[api.Sent], want[api.Held], want[api.Unasked], want[api.NoPort], want[api.NoSession] = 10, 26, 18, 6, 2
	if counts(b) != want {
		t.Errorf("counts %v, want %v", counts(b), want)
	}
}

// What is filtered has begun its sender's session, also in pieces.
func TestP15WholeFiltered(t *testing.T) {
	b := box(t, 2)
	asks(t, b, net+1, 9, far, 53, lo)
	tick(t, b, 3)
	l := cut(udp(net+2, 9, out, lo, letters), 24)
	holds(t, b, api.Inside, l[1])
	tick(t, b, 3)
	drops(t, b, api.Inside, l[0], api.Filtered)
	shows(t, b, "time 6", session(17, net+1, 9, lo, far, 53, 0, 30), session(17, net+2, 9, lo+1, out, lo, 0, 36))
	held(t, b, net+2, 0, 0)
}

// An error must have come in one piece; but its checksum is looked at first.
func TestP14InPieces(t *testing.T) {
	b := busy(t)
	for _, kind := range []int{3, 11, 12} {
		for i := range 3 {
			outer, inner := pairsOut()[i][0].raw(), pairsOut()[i][1].raw()
			back, home := pairsIn()[i][0].raw(), pairsIn()[i][1].raw()
			comes(t, b, api.Outside, trouble(kind, far+9, out, outer), api.BadBody)
			comes(t, b, api.Inside, trouble(kind, net+5, far+9, home), api.BadBody)
			comes(t, b, api.Inside, trouble(kind, net+5, out, home), api.BadBody)
			comes(t, b, api.Outside, trouble(kind, far+9, out, "no packet"), api.BadBody)
			comes(t, b, api.Outside, trouble(kind, far+9, out, udp(out, 1, far, 1, "x").raw()), api.BadBody)
			sour := trouble(kind, far+9, out, outer)
			sour.body += "x"
			comes(t, b, api.Outside, sour, api.BadSum)
			tells(t, b, outer, net+1, inner)
			complains(t, b, home, back)
		}
	}
}

// An error may well be about a piece, if that is the first one.
func TestP14AboutPieces(t *testing.T) {
	b := busy(t)
	outer, inner := udp(out, lo+1, far, 53, letters), udp(net+1, 9, far, 53, letters)
	first, of := cut(outer, 16)[0], cut(inner, 16)[0]
	tells(t, b, first.raw(), net+1, of.raw())
	stands(t, b, api.Outside, trouble(3, far, out, cut(outer, 16)[1].raw()), api.BadBody)
}

// UDP's checksum that would be 0 is 65,535 in pieces, too; and where there was none there is none.
func TestP9ZeroSumInPieces(t *testing.T) {
	for _, none := range []bool{false, true} {
		q := udp(out, lo, far, 53, letters+"\x00\x00")
		rest := folded(q.pseudo() + put(q.body, 6, "\x00\x00"))
		data := letters + word(65535-rest)
		p, q := udp(net+1, 9, far, 53, data), udp(out, lo, far, 53, data)
		if q.body[6:8] != "\xff\xff" {
			t.Fatalf("checksum %x", q.body[6:8])
		}
		if none {
			p, q = p.unsummed(), q.unsummed()
		}
		b := box(t, 1)
		holds(t, b, api.Inside, cut(p, 32)[0])
		receive(t, b, api.Inside, cut(p, 32)[1].raw(), api.Sent, allGo(api.Outside, cut(q, 32)))
	}
}

// The list of a datagram's packets is the caller's.
func TestP2ListsOfPieces(t *testing.T) {
	b := box(t, 1)
	p, q := udp(net+1, 9, far, 53, letters), udp(out, lo, far, 53, letters)
	l, want := cut(p, 8, 16), allGo(api.Outside, cut(q, 8, 16))
	lists := [][]api.Frame{}
	for range 2 {
		holds(t, b, api.Inside, l[1:]...)
		_, frames := b.Receive(api.Inside, l[0].raw())
		same(t, frames, want)
		lists = append(lists, frames)
	}
	for i := range lists[0] {
		lists[0][i] = api.Frame{Side: 9, Raw: "mine"}
	}
	for range 8 {
		lists[0] = append(lists[0], api.Frame{Side: 8, Raw: "more"})
	}
	same(t, lists[1], want)
	holds(t, b, api.Inside, l[:2]...)
	receive(t, b, api.Inside, l[2].raw(), api.Sent, want)
}

func TestP16Held(t *testing.T) {
	b := box(t, 1)
	for _, n := range oddNumbers {
		held(t, b, n, 0, 0)
	}
	p, q, r := udp(net+1, 9, far, 53, letters), tcp(net+1, 9, far, 80, api.SYN), icmp(0, far, out, 9, letters)
	holds(t, b, api.Inside, part(p, 16, 44))
	held(t, b, net+1, 44, 44)
	holds(t, b, api.Inside, part(q, 8, 20))
	held(t, b, net+1, 72, 72)
	holds(t, b, api.Outside, part(r, 40, 44))
	held(t, b, net+1, 92, 72)
	held(t, b, far, 92, 20)
	holds(t, b, api.Inside, at(p, 0, more, letters[:8]))
	held(t, b, net+1, 116, 96)
	for _, n := range append(oddNumbers, net, net+2, far+1, out, net+1+1<<32) {
		held(t, b, n, 116, 0)
	}
	drops(t, b, api.Inside, at(p, 0, more, letters[:16]), api.Overlap)
	held(t, b, net+1, 48, 28)
	tick(t, b, 6)
	held(t, b, net+1, 0, 0)
	c := config(1)
	c.Net, c.Bits = 0, 8
	b = boxOf(t, c)
	holds(t, b, api.Inside, part(udp(0, 9, far, 53, letters), 16, 44))
	held(t, b, 0, 44, 44)
	held(t, b, 1, 44, 0)
}

// What waits is shown in its order, in whatever order it came, and numbers are compared as numbers.
func TestP16Order(t *testing.T) {
	a := func(side, src, dst, proto, number int) packet {
		return packet{service: side, number: number, lives: 9, proto: proto, src: src, dst: dst}
	}
	for _, four := range [][]packet{
		{a(0, net+9, far, 17, 7), a(0, net+10, far, 6, 6), a(1, 9, out, 1, 5), a(1, 100, out, 1, 4)},
		{a(0, net+1, 9, 17, 70), a(0, net+1, 100, 6, 60), a(0, net+1, far, 1, 50), a(0, net+1, 0xffffffff, 1, 40)},
		{a(0, net+1, far, 1, 700), a(0, net+1, far, 6, 90), a(0, net+1, far, 17, 0), a(0, net+2, far, 1, 1)},
		{a(0, net+1, far, 6, 9), a(0, net+1, far, 6, 10), a(0, net+1, far, 6, 1000), a(0, net+1, far, 6, 65535)},
		{a(0, net+(1<<24)-1, 0xffffffff, 17, 65535), a(1, 0, out, 1, 0), a(1, 0, out, 6, 0), a(1, 0, out, 6, 1)},
	} {
		for n, order := range orders(4) {
			b := box(t, 1)
			want := []string{"time 0"}
			for k, p := range four {
				if k == n%4 {
					want = append(want, waits(p.service, p, 1, 6))
				} else {
					want = append(want, waits(p.service, p, 0, 6), piece(8+8*k, 8))
				}
			}
			for _, k := range order {
				p := four[k]
				holds(t, b, p.service, at(p, 8+8*k, more, letters[:8]))
				if k == n%4 {
					drops(t, b, p.service, at(p, 8+8*k, more, letters[8:16]), api.Overlap)
				}
			}
			shows(t, b, want...)
		}
	}
}

// Pieces are shown by where they lie, behind their datagram, and that behind all sessions.
func TestP16Pieces(t *testing.T) {
	p := udp(net+1, 9, far, 53, letters)
	list := []packet{at(p, 0, more, letters[:8]), at(p, 8, more, letters[:24]), at(p, 64, more, letters[:8]), at(p, 1000, more, letters[:16]), at(p, 65528, 0, "x")}
	lines := []string{piece(0, 8), piece(8, 24), piece(64, 8), piece(1000, 16), piece(65528, 1)}
	for _, order := range orders(5) {
		b := box(t, 1)
		asks(t, b, net+1, 9, far, 53, lo)
		tick(t, b, 1)
		for _, k := range order {
			holds(t, b, api.Inside, list[k])
		}
		first := []string{"time 1", session(17, net+1, 9, lo, far, 53, 0, 30), waits(0, p, 0, 7)}
		shows(t, b, append(first, lines...)...)
		held(t, b, net+1, 5*16+57, 5*16+57)
	}
}

// A box holds for itself alone.
func TestP16EachForItself(t *testing.T) {
	p := udp(net+1, 9, far, 53, letters)
	one, other := box(t, 1), box(t, 1)
	holds(t, one, api.Inside, cut(p, 16)[0])
	shows(t, other, "time 0")
	held(t, other, net+1, 0, 0)
	holds(t, other, api.Inside, cut(p, 16)[1])
	held(t, one, net+1, 32, 32)
}

func TestP1Pieces(t *testing.T) {
	b := box(t, 2)
	for n := range 1 << 14 {
		p := udp(net+1, 9, far, 53, letters)
		p.number = n / 64
		tally(t, b, api.Inside, at(p, n%8192*8, more*(n/8192), strings.Repeat("z", 8)).raw())
		if n%64 == 0 {
			tick(t, b, 7)
		}
	}
}
