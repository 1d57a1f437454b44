package promises

import (
	"strings"
	"testing"

	"gateway/api"
	"gateway/gateway"
)

// pings: an inner end sends an echo, which goes by an outer port.
func pings(t *testing.T, b *gateway.Box, src, number, dst, port int) {
	t.Helper()
	sends(t, b, api.Inside, icmp(8, src, dst, number, "ping"), api.Outside, icmp(8, out, dst, port, "ping"))
}

// replies: the reply to an outer port reaches an inner end.
func replies(t *testing.T, b *gateway.Box, src, port, dst, number int) {
	t.Helper()
	sends(t, b, api.Outside, icmp(0, src, out, port, "ping"), api.Inside, icmp(0, src, dst, number, "ping"))
}

// ofKind is a packet of ICMP with another kind and code.
func (p packet) ofKind(kind, code int) packet {
	p.body = string([]byte{byte(kind), byte(code)}) + p.body[2:]
	return p.sealed()
}

func TestP13Echoes(t *testing.T) {
	for _, number := range []int{0, 1, lo, lo + 1, 256, 65535} {
		b := box(t, 1)
		pings(t, b, net+1, number, far, lo)
		shows(t, b, "time 0", session(1, net+1, number, lo, far, 0, 0, 10))
		replies(t, b, far, lo, net+1, number)
		replies(t, b, far, lo, net+1, number)
		shows(t, b, "time 0", session(1, net+1, number, lo, far, 0, 0, 10))
	}
}

func TestP13MessageAsItCame(t *testing.T) {
	for n := range 133 {
		data := strings.Repeat("\xfe\x01z", 45)[:n]
		order := func(p packet) packet {
			p.body = put(p.body, 6, word(n*499))
			p.service, p.number, p.place, p.lives = n, n*300, dontCut*(n%2), 255-n
			return p.sealed()
		}
		b := box(t, 1)
		sends(t, b, api.Inside, order(icmp(8, net+1, far, 9, data)), api.Outside, order(icmp(8, out, far, lo, data)))
		sends(t, b, api.Outside, order(icmp(0, far, out, lo, data)), api.Inside, order(icmp(0, far, net+1, 9, data)))
	}
}

// The number is all that tells an inner end's echoes apart, and the far end's address all that tells far ends apart.
func TestP13Ports(t *testing.T) {
	b := box(t, 3)
	asks(t, b, net+1, 7, far, 53, lo)
	calls(t, b, net+1, 7, far, 80, api.SYN, lo)
	pings(t, b, net+1, 7, far, lo)
	pings(t, b, net+2, 7, far, lo+1)
	pings(t, b, net+1, 8, far, lo+2)
	pings(t, b, net+1, 7, far+1, lo)
	pings(t, b, net+1, 8, far+2, lo+2)
	drops(t, b, api.Inside, icmp(8, net+2, far, 8, "ping"), api.NoPort)
	shows(t, b, "time 0",
		session(1, net+1, 7, lo, far, 0, 0, 10),
		session(1, net+1, 7, lo, far+1, 0, 0, 10),
		session(1, net+1, 8, lo+2, far, 0, 0, 10),
		session(1, net+1, 8, lo+2, far+2, 0, 0, 10),
		session(1, net+2, 7, lo+1, far, 0, 0, 10),
		session(6, net+1, 7, lo, far, 80, 1, 8),
		session(17, net+1, 7, lo, far, 53, 0, 30))
	replies(t, b, far, lo, net+1, 7)
	replies(t, b, far, lo+1, net+2, 7)
	replies(t, b, far, lo+2, net+1, 8)
	replies(t, b, far+1, lo, net+1, 7)
	replies(t, b, far+2, lo+2, net+1, 8)
	for _, p := range []packet{
		icmp(0, far+2, out, lo, "ping"), icmp(0, far+1, out, lo+1, "ping"), icmp(0, far+1, out, lo+2, "ping"),
		icmp(0, far, out, lo-1, "ping"), icmp(0, far, out, lo+3, "ping"),
		icmp(0, far, out, 7, "ping"), icmp(0, far, out, 0, "ping"),
	} {
		drops(t, b, api.Outside, p, api.Unasked)
	}
	for k := range 3 {
		pings(t, b, net+1, 7, far+10+k, lo)
	}
	drops(t, b, api.Inside, icmp(8, net+1, far+20, 7, "ping"), api.NoSession)
	drops(t, b, api.Inside, icmp(8, net+9, far+20, 7, "ping"), api.NoSession)
	pings(t, b, net+1, 7, far+12, lo)
}

// A datagram of another protocol is no reply, and a reply is no answer to another protocol.
func TestP13EachProtocolForItself(t *testing.T) {
	b := box(t, 2)
	asks(t, b, net+1, 7, far, 53, lo)
	drops(t, b, api.Outside, icmp(0, far, out, lo, "ping"), api.Unasked)
	pings(t, b, net+2, 7, far+1, lo)
	drops(t, b, api.Outside, udp(far+1, 53, out, lo, "x"), api.Unasked)
	drops(t, b, api.Outside, icmp(0, far, out, lo, "ping"), api.Unasked)
}

func TestP13Deadlines(t *testing.T) {
	b := box(t, 1)
	pings(t, b, net+1, 7, far, lo)
	tick(t, b, 9)
	pings(t, b, net+1, 7, far+1, lo)
	replies(t, b, far, lo, net+1, 7)
	shows(t, b, "time 9", session(1, net+1, 7, lo, far, 0, 0, 19), session(1, net+1, 7, lo, far+1, 0, 0, 19))
	tick(t, b, 9)
	pings(t, b, net+1, 7, far, lo)
	shows(t, b, "time 18", session(1, net+1, 7, lo, far, 0, 0, 28), session(1, net+1, 7, lo, far+1, 0, 0, 19))
	tick(t, b, 1)
	drops(t, b, api.Outside, icmp(0, far+1, out, lo, "ping"), api.Unasked)
	drops(t, b, api.Inside, icmp(8, net+1, far, 8, "ping"), api.NoPort)
	tick(t, b, 9)
	shows(t, b, "time 28")
	drops(t, b, api.Outside, icmp(0, far, out, lo, "ping"), api.Unasked)
	pings(t, b, net+1, 8, far, lo)
}

// stands: the packet is dropped, and what the box knows stays.
func stands(t *testing.T, b *gateway.Box, side int, p packet, what int) {
	t.Helper()
	before := b.Show()
	drops(t, b, side, p, what)
	if s := b.Show(); s != before {
		t.Fatalf("behind %x: Show = %q, want %q", p.raw(), s, before)
	}
}

// pinged is a box in which net+1 has sent an echo of number 7 and net+2 one of number 0, five units of time ago.
func pinged(t *testing.T) *gateway.Box {
	t.Helper()
	b := box(t, 3)
	pings(t, b, net+1, 7, far, lo)
	pings(t, b, net+2, 0, far, lo+1)
	tick(t, b, 5)
	return b
}

func TestP13Unasked(t *testing.T) {
	b := pinged(t)
	asks(t, b, net+1, 9, far, 53, lo)
	for _, number := range []int{0, 7, 9, lo, lo + 1, lo + 2, 65535} {
		stands(t, b, api.Inside, icmp(0, net+1, far, number, "ping"), api.Unasked)
		stands(t, b, api.Inside, icmp(0, net+2, out, number, "ping"), api.Unasked)
		stands(t, b, api.Inside, icmp(8, net+1, out, number, "ping"), api.Unasked)
		stands(t, b, api.Inside, icmp(8, net+2, out, number, "ping"), api.Unasked)
		stands(t, b, api.Outside, icmp(8, far, out, number, "ping"), api.Unasked)
		stands(t, b, api.Outside, icmp(8, far+1, out, number, "ping"), api.Unasked)
	}
	if n := b.Count(api.Unasked); n != 42 {
		t.Errorf("Count = %d", n)
	}
}

// An echo to the outer address is Unasked though there would be no session or no port for it.
func TestP13UnaskedFirst(t *testing.T) {
	b := box(t, 1)
	for k := range 10 {
		pings(t, b, net+1, 7, far+k, lo)
	}
	stands(t, b, api.Inside, icmp(8, net+2, out, lo, "ping"), api.Unasked)
	stands(t, b, api.Inside, icmp(0, net+2, far, lo, "ping"), api.Unasked)
	stands(t, b, api.Inside, icmp(8, net+2, far, lo, "ping"), api.NoSession)
}

func TestP13OtherMessages(t *testing.T) {
	b := pinged(t)
	for kind := range 256 {
		for _, code := range []int{0, 1, 8, 255} {
			if code == 0 && (kind == 0 || kind == 8) || kind == 3 || kind == 11 || kind == 12 {
				continue
			}
			stands(t, b, api.Inside, icmp(8, net+1, far, 7, "ping").ofKind(kind, code), api.BadBody)
			stands(t, b, api.Inside, icmp(8, net+1, out, 7, "ping").ofKind(kind, code), api.BadBody)
			stands(t, b, api.Inside, icmp(8, net+3, far, 7, "ping").ofKind(kind, code), api.BadBody)
			stands(t, b, api.Outside, icmp(0, far, out, lo, "ping").ofKind(kind, code), api.BadBody)
			stands(t, b, api.Outside, icmp(0, far+1, out, lo, "ping").ofKind(kind, code), api.BadBody)
		}
	}
}

// What speaks against the message itself comes first, at either side and of whatever kind it is.
func TestP13FormFirst(t *testing.T) {
	b := pinged(t)
	for _, kind := range []int{0, 3, 5, 8, 11, 12} {
		for _, p := range []packet{icmp(kind, net+1, far, 7, "ping"), icmp(kind, net+1, out, 7, "ping"), icmp(kind, far, out, lo, "ping")} {
			side := api.Inside
			if p.src == far {
				side = api.Outside
			}
			for at := range p.body {
				q := p
				q.body = put(q.body, at, string([]byte{q.body[at] ^ 64}))
				stands(t, b, side, q, api.BadSum)
			}
			for n := 1; n < 8; n++ {
				q := p
				q.body = q.body[:n]
				stands(t, b, side, q, api.BadBody)
			}
		}
	}
}

// nulled is an ICMP packet with such a last word that all words but the checksum fold to 65,535.
func nulled(p packet, at int) packet {
	p.body = put(put(p.body, 2, "\x00\x00"), at, "\x00\x00")
	p.body = put(p.body, at, word(65535-folded(p.body)))
	return p
}

// A checksum of ICMP that is made may be 0; one that comes may be 0 or 65,535 alike.
func TestP13SumAtTheEdge(t *testing.T) {
	q := nulled(icmp(8, out, far, lo, "ping"), 10)
	p := icmp(8, net+1, far, 7, q.body[8:])
	b := box(t, 1)
	sends(t, b, api.Inside, p, api.Outside, q)
	for _, sum := range []string{"\x00\x00", "\xff\xff"} {
		p = nulled(icmp(0, far, out, lo, "ping"), 10)
		p.body = put(p.body, 2, sum)
		sends(t, b, api.Outside, p, api.Inside, icmp(0, far, net+1, 7, p.body[8:]))
	}
	q = nulled(icmp(0, far, net+1, 7, "ping"), 10)
	sends(t, b, api.Outside, icmp(0, far, out, lo, q.body[8:]), api.Inside, q)
}

func TestP13OtherAddresses(t *testing.T) {
	b := pinged(t)
	stands(t, b, api.Inside, icmp(8, far, far+1, 7, "ping"), api.BadAddr)
	stands(t, b, api.Inside, icmp(8, net+1, net+2, 0, "ping"), api.BadAddr)
	stands(t, b, api.Outside, icmp(0, net+1, out, lo, "ping"), api.BadAddr)
	stands(t, b, api.Outside, icmp(0, far, net+1, 7, "ping"), api.BadAddr)
	late := icmp(8, net+1, far, 7, "ping")
	late.lives = 1
	stands(t, b, api.Inside, late, api.Expired)
}
