package promises

import (
	"strings"
	"testing"

	"gateway/api"
)

// found: what the message of a packet is found to be, asked from inside.
func found(t *testing.T, p packet, what int) {
	t.Helper()
	got, frames := box(t, 1).Receive(api.Inside, p.raw())
	if got != what || (len(frames) == 1) != (what == api.Sent) {
		t.Fatalf("Receive(%x) = %d, %x, want %d", p.raw(), got, frames, what)
	}
}

func TestP5UDPForm(t *testing.T) {
	found(t, udp(net+1, 1, far, 53, ""), api.Sent)
	found(t, udp(net+1, 65535, far, 65535, ""), api.Sent)
	found(t, udp(net+1, 0, far, 53, "x"), api.BadBody)
	found(t, udp(net+1, 1, far, 0, "x"), api.BadBody)
	found(t, udp(net+1, 0, far, 0, "x"), api.BadBody)
	found(t, udp(net+1, 256, far, 256, "x"), api.Sent)
	for n := 1; n < 8; n++ {
		p := packet{lives: 9, proto: api.UDP, src: net + 1, dst: far, body: ("\x00\x01\x00\x35" + word(n) + "\x00")[:n]}
		found(t, p, api.BadBody)
	}
	for _, n := range []int{0, 7, 8, 11, 13, 12 + 256} {
		p := udp(net+1, 1, far, 53, "data")
		p.body = put(p.body, 4, word(n))
		found(t, p.sealed(), api.BadBody)
		found(t, p.unsummed(), api.BadBody)
	}
}

func TestP5TCPForm(t *testing.T) {
	found(t, tcp(net+1, 1, far, 80, api.SYN), api.Sent)
	found(t, tcp(net+1, 65535, far, 65535, api.SYN), api.Sent)
	found(t, tcp(net+1, 256, far, 256, api.SYN), api.Sent)
	found(t, tcp(net+1, 0, far, 80, api.SYN), api.BadBody)
	found(t, tcp(net+1, 1, far, 0, api.SYN), api.BadBody)
	for n := 18; n < 20; n++ {
		p := tcp(net+1, 1, far, 80, api.SYN)
		p.body = p.body[:n]
		found(t, p.sealed(), api.BadBody)
		p.body = put(p.body, 12, "\x40")
		found(t, p.sealed(), api.BadBody)
	}
	for n := 1; n < 18; n++ {
		p := tcp(net+1, 1, far, 80, api.SYN)
		p.body = p.body[:n]
		found(t, p, api.BadBody)
	}
	for words := range 16 {
		for _, extra := range []int{0, 3, 4, 20, 39, 40} {
			p := tcp(net+1, 1, far, 80, api.SYN)
			p.body = put(p.body, 12, string([]byte{byte(words<<4 | 15)})) + strings.Repeat("o", extra)
			want := api.Sent
			if words < 5 || words*4 > 20+extra {
				want = api.BadBody
			}
			found(t, p.sealed(), want)
		}
	}
}

func TestP5Sums(t *testing.T) {
	for _, p := range []packet{udp(net+1, 1, far, 53, "even"), udp(net+1, 1, far, 53, "odd"), tcp(net+1, 1, far, 80, api.SYN)} {
		found(t, p, api.Sent)
		at := p.sumPlace()
		sum := int(p.body[at])*256 + int(p.body[at+1])
		for _, d := range []int{1, 255, 256, 65534} {
			q := p
			q.body = put(q.body, at, word(sum+d))
			found(t, q, api.BadSum)
		}
		for i := range p.body {
			if p.proto == api.UDP && (i == 4 || i == 5) || p.proto == api.TCP && i == 12 {
				continue
			}
			q := p
			q.body = put(q.body, i, string([]byte{q.body[i] ^ 2}))
			found(t, q, api.BadSum)
		}
		for _, d := range []int{1, 256, 1 << 16} {
			q := p
			q.src += d
			found(t, q, api.BadSum)
			q.src, q.dst = p.src, p.dst+d<<8
			found(t, q, api.BadSum)
		}
	}
}

// The checksum is of the protocol and the length too: one that is made without either is wrong.
func TestP5SumsCoverAll(t *testing.T) {
	for _, p := range []packet{udp(net+1, 1, far, 53, "even"), tcp(net+1, 1, far, 80, api.SYN)} {
		bare := put(p.body, p.sumPlace(), "\x00\x00")
		for _, besides := range []string{"", address(p.src), address(p.dst), address(p.src) + address(p.dst), address(p.src) + address(p.dst) + word(p.proto), address(p.src) + address(p.dst) + word(len(p.body))} {
			q := p
			q.body = put(bare, p.sumPlace(), word(65535-folded(besides+bare)))
			found(t, q, api.BadSum)
		}
	}
}

func TestP5NoSum(t *testing.T) {
	found(t, udp(net+1, 1, far, 53, "none").unsummed(), api.Sent)
	// TCP is never without one.
	p := tcp(net+1, 1, far, 80, api.SYN)
	p.body = put(p.body, 16, "\x00\x00")
	found(t, p, api.BadSum)
}

func TestP5ICMP(t *testing.T) {
	p := icmp(8, net+1, far, 9, "")
	for n := 1; n < 8; n++ {
		q := p
		q.body = q.body[:n]
		if n >= 4 {
			q = q.sealed()
		}
		found(t, q, api.BadBody)
	}
	for i := range p.body {
		q := p
		q.body = put(q.body, i, string([]byte{q.body[i] ^ 4}))
		found(t, q, api.BadSum)
	}
	// Its checksum is of the message alone.
	covered := put(p.body, 2, "\x00\x00")
	p.body = put(p.body, 2, word(65535-folded(p.pseudo()+covered)))
	found(t, p, api.BadSum)
}

// zeroed is the packet with its last word such that all words but the checksum fold to 65,535.
func zeroed(p packet, at int) packet {
	p.body = put(put(p.body, p.sumPlace(), "\x00\x00"), at, "\x00\x00")
	p.body = put(p.body, at, word(65535-folded(p.pseudo()+p.body)))
	return p
}

func TestP5SumAtTheEdge(t *testing.T) {
	p := zeroed(udp(net+1, 1, far, 53, "even"), 10)
	p.body = put(p.body, 6, "\xff\xff")
	found(t, p, api.Sent)
	for _, sum := range []string{"\x00\x00", "\xff\xff"} {
		p = zeroed(tcp(net+1, 1, far, 80, api.SYN), 18)
		p.body = put(p.body, 16, sum)
		found(t, p, api.Sent)
	}
}

func TestP5BodyBeforeSum(t *testing.T) {
	p := udp(net+1, 1, far, 53, "data")
	p.body = put(p.body, 4, word(13))
	found(t, p, api.BadBody)
	p = udp(net+1, 1, far, 53, "data")
	p.body = put(p.body, 0, word(0))
	found(t, p, api.BadBody)
	p = tcp(net+1, 1, far, 80, api.SYN)
	p.body = put(p.body, 12, "\x60")
	found(t, p, api.BadBody)
	// Both come before what the box knows: nobody asked for these.
	p = tcp(net+1, 1, far, 80, api.ACK)
	p.body = put(p.body, 4, "\x77")
	found(t, p, api.BadSum)
	p = udp(far, 53, out, lo, "x")
	p.body = put(p.body, 8, "y")
	drops(t, box(t, 1), api.Outside, p, api.BadSum)
	drops(t, box(t, 1), api.Outside, udp(far, 0, out, lo, "x"), api.BadBody)
	drops(t, box(t, 1), api.Outside, tcp(far, 80, out, 0, api.SYN), api.BadBody)
}

func TestP9HeaderAsItCame(t *testing.T) {
	for _, place := range []int{0, dontCut} {
		for _, service := range []int{0, 1, 0xb8, 255} {
			for _, number := range []int{0, 1, 0x1234, 65535} {
				dress := func(p packet) packet {
					p.service, p.number, p.place, p.lives = service, number, place, 77
					return p
				}
				b := box(t, 2)
				sends(t, b, api.Inside, dress(udp(net+1, 1, far, 53, "x")), api.Outside, dress(udp(out, lo, far, 53, "x")))
				sends(t, b, api.Outside, dress(udp(far, 53, out, lo, "x")), api.Inside, dress(udp(far, 53, net+1, 1, "x")))
				sends(t, b, api.Inside, dress(udp(net+1, 1, out, lo, "x")), api.Inside, dress(udp(out, lo, net+1, 1, "x")))
			}
		}
	}
}

func TestP9MessageAsItCame(t *testing.T) {
	for n := range 133 {
		data := strings.Repeat("\xfe\x01z", 44)[:n]
		b := box(t, 1)
		sends(t, b, api.Inside, udp(net+1, 1, far, 53, data), api.Outside, udp(out, lo, far, 53, data))
		sends(t, b, api.Outside, udp(far, 53, out, lo, data), api.Inside, udp(far, 53, net+1, 1, data))
	}
	for n := range 121 {
		long := func(p packet) packet {
			if n >= 8 {
				p.body = put(p.body, 12, "\x7e")
			}
			// Where urgent data ends, and beyond.
			p.body = put(p.body, 18, "\x01\x02") + strings.Repeat("\x00\xffq", 41)[:n]
			return p.sealed()
		}
		b := box(t, 1)
		sends(t, b, api.Inside, long(tcp(net+1, 1, far, 80, api.SYN|0xe8)), api.Outside, long(tcp(out, lo, far, 80, api.SYN|0xe8)))
		sends(t, b, api.Outside, long(tcp(far, 80, out, lo, api.ACK)), api.Inside, long(tcp(far, 80, net+1, 1, api.ACK)))
	}
}

func TestP9NoSumStays(t *testing.T) {
	b := box(t, 1)
	sends(t, b, api.Inside, udp(net+1, 1, far, 53, "x").unsummed(), api.Outside, udp(out, lo, far, 53, "x").unsummed())
	sends(t, b, api.Outside, udp(far, 53, out, lo, "x").unsummed(), api.Inside, udp(far, 53, net+1, 1, "x").unsummed())
	sends(t, b, api.Inside, udp(net+1, 1, out, lo, "x").unsummed(), api.Inside, udp(out, lo, net+1, 1, "x").unsummed())
}

// A checksum that would be 0 is 65,535 for UDP, and 0 for TCP.
func TestP9SumAtTheEdge(t *testing.T) {
	q := zeroed(udp(out, lo, far, 53, "even"), 10)
	p := udp(net+1, 1, far, 53, q.body[8:])
	q.body = put(q.body, 6, "\xff\xff")
	sends(t, box(t, 1), api.Inside, p, api.Outside, q)
	q = zeroed(tcp(out, lo, far, 80, api.SYN), 18)
	p = tcp(net+1, 1, far, 80, api.SYN)
	p.body = put(p.body, 18, q.body[18:])
	sends(t, box(t, 1), api.Inside, p.sealed(), api.Outside, q)
}

// A header's checksum that is made may be 0.
func TestP9HeaderSumAtTheEdge(t *testing.T) {
	q := udp(out, lo, far, 53, "x")
	q.number, q.lives = 0, 8
	q.number = 65535 - folded(put(q.raw(), 10, "\x00\x00")[:20])
	p := udp(net+1, 1, far, 53, "x")
	p.number = q.number
	if q.raw()[10:12] != "\x00\x00" {
		t.Fatalf("%x", q.raw())
	}
	q.lives = 9
	sends(t, box(t, 1), api.Inside, p, api.Outside, q)
}
