package promises

import (
	"strings"
	"testing"

	"gateway/api"
)

// turned is the packet's bytes with others at a place, the header's checksum being right.
func turned(p packet, at int, v string) string { return resum(put(p.raw(), at, v)) }

func TestP4Sides(t *testing.T) {
	p := udp(net+1, 1, far, 53, "x")
	for _, side := range []int{-1, 2, 3, 1 << 40, -1 << 40} {
		receive(t, box(t, 1), side, p.raw(), api.BadSide, nil)
		receive(t, box(t, 1), side, "", api.BadSide, nil)
	}
}

func TestP4Malformed(t *testing.T) {
	p := udp(net+1, 1, far, 53, "data")
	good := p.raw()
	for n := range len(good) {
		receive(t, box(t, 1), api.Inside, good[:n], api.Malformed, nil)
		receive(t, box(t, 1), api.Outside, good[:n], api.Malformed, nil)
	}
	bare := resum(put(good[:20], 2, word(20)))
	receive(t, box(t, 1), api.Inside, bare, api.Malformed, nil)
	receive(t, box(t, 1), api.Inside, good+"x", api.Malformed, nil)
	for _, v := range []string{"\x00", "\x44", "\x46", "\x55", "\x65", "\xff"} {
		receive(t, box(t, 1), api.Inside, turned(p, 0, v), api.Malformed, nil)
	}
	for _, n := range []int{0, 20, len(good) - 1, len(good) + 1, len(good) + 256} {
		receive(t, box(t, 1), api.Inside, turned(p, 2, word(n)), api.Malformed, nil)
	}
	for _, v := range []int{0x8000, 0xc000, 0xa000, 0x8001} {
		receive(t, box(t, 1), api.Inside, turned(p, 6, word(v)), api.Malformed, nil)
	}
}

func TestP4Lengths(t *testing.T) {
	// One byte is no message of UDP, but it is a packet.
	drops(t, box(t, 1), api.Inside, packet{lives: 9, proto: api.UDP, src: net + 1, dst: far, body: "x"}, api.BadBody)
	full := strings.Repeat("z", 132)
	sends(t, box(t, 1), api.Inside, udp(net+1, 1, far, 53, full), api.Outside, udp(out, lo, far, 53, full))
	drops(t, box(t, 1), api.Inside, udp(net+1, 1, far, 53, full+"z"), api.Malformed)
}

func TestP4HeaderSum(t *testing.T) {
	p := udp(net+1, 1, far, 53, "x")
	p.service, p.number, p.place, p.lives = 3, 0x1234, dontCut, 200
	good := p.raw()
	for at := range 20 {
		want := api.BadSum
		if at == 0 || at == 2 || at == 3 {
			want = api.Malformed
		}
		receive(t, box(t, 1), api.Inside, put(good, at, string([]byte{good[at] ^ 1})), want, nil)
	}
	for _, d := range []int{1, 256, 65534} {
		sum := int(good[10])*256 + int(good[11])
		receive(t, box(t, 1), api.Inside, put(good, 10, word(sum+d)), api.BadSum, nil)
	}
}

// A header of which the words other than its checksum fold to 65,535 is right with a checksum of 0, and of 65,535.
func TestP4HeaderSumAtTheEdge(t *testing.T) {
	for _, sum := range []string{"\x00\x00", "\xff\xff"} {
		p := udp(net+1, 1, far, 53, "x")
		p.number = 0
		rest := folded(put(p.raw(), 10, "\x00\x00")[:20])
		p.number = 65535 - rest
		q := udp(out, lo, far, 53, "x")
		q.number = p.number
		receive(t, box(t, 1), api.Inside, put(p.raw(), 10, sum), api.Sent, goes(api.Outside, q))
	}
}

func TestP4More(t *testing.T) {
	for n := 1; n <= 40; n++ {
		p := packet{number: 5, place: more, lives: 9, proto: api.UDP, src: net + 1, dst: far, body: strings.Repeat("z", n)}
		what, frames := box(t, 1).Receive(api.Inside, p.raw())
		if (what == api.Malformed) != (n%8 != 0) || len(frames) != 0 {
			t.Errorf("MORE with a body of %d bytes: %d", n, what)
		}
		p.place = 1
		if what, _ := box(t, 1).Receive(api.Inside, p.raw()); what == api.Malformed {
			t.Errorf("a last piece with a body of %d bytes: Malformed", n)
		}
	}
}

func TestP4Expired(t *testing.T) {
	for _, lives := range []int{0, 1} {
		p := udp(net+1, 1, far, 53, "x")
		p.lives = lives
		drops(t, box(t, 1), api.Inside, p, api.Expired)
	}
	for _, lives := range []int{2, 3, 128, 255} {
		p, q := udp(net+1, 1, far, 53, "x"), udp(out, lo, far, 53, "x")
		p.lives, q.lives = lives, lives
		sends(t, box(t, 1), api.Inside, p, api.Outside, q)
	}
}

func TestP4AddrInside(t *testing.T) {
	for _, c := range []struct {
		src, dst int
		ok       bool
	}{
		{net, far, true}, {net + 1<<24 - 1, far, true}, {net - 1, far, false}, {net + 1<<24, far, false},
		{out, far, false}, {far, far + 1, false}, {far, net + 1, false},
		{net + 1, net + 2, false}, {net + 1, net, false}, {net + 1, net + 1<<24 - 1, false},
		{net + 1, net - 1, true}, {net + 1, net + 1<<24, true}, {net + 1, 0, true}, {net + 1, 1<<32 - 1, true},
	} {
		p := udp(c.src, 1, c.dst, 53, "x")
		if !c.ok {
			drops(t, box(t, 1), api.Inside, p, api.BadAddr)
			continue
		}
		sends(t, box(t, 1), api.Inside, p, api.Outside, udp(out, lo, c.dst, 53, "x"))
	}
	// The outer address may be asked from inside: it is nobody's port yet.
	drops(t, box(t, 1), api.Inside, udp(net+1, 1, out, lo, "x"), api.Unasked)
}

func TestP4AddrOutside(t *testing.T) {
	for _, c := range []struct {
		src, dst int
		ok       bool
	}{
		{far, out, true}, {net - 1, out, true}, {net + 1<<24, out, true}, {0, out, true}, {1<<32 - 1, out, true},
		{net, out, false}, {net + 1<<24 - 1, out, false}, {out, out, false},
		{far, out + 1, false}, {far, out - 1, false}, {far, net + 1, false}, {far, far + 1, false}, {net + 1, far, false},
	} {
		want := api.BadAddr
		if c.ok {
			want = api.Unasked
		}
		drops(t, box(t, 1), api.Outside, udp(c.src, 53, c.dst, lo, "x"), want)
	}
}

func TestP4SmallNet(t *testing.T) {
	c := config(1)
	c.Net, c.Bits = net+4, 30
	for a := net; a < net+12; a++ {
		p := udp(a, 1, far, 53, "x")
		if a < net+4 || a > net+7 {
			drops(t, boxOf(t, c), api.Inside, p, api.BadAddr)
			drops(t, boxOf(t, c), api.Outside, udp(a, 53, out, lo, "x"), api.Unasked)
			continue
		}
		sends(t, boxOf(t, c), api.Inside, p, api.Outside, udp(out, lo, far, 53, "x"))
		drops(t, boxOf(t, c), api.Outside, udp(a, 53, out, lo, "x"), api.BadAddr)
	}
}

func TestP4Proto(t *testing.T) {
	for proto := range 256 {
		if proto == api.ICMP || proto == api.TCP || proto == api.UDP {
			continue
		}
		p := udp(net+1, 1, far, 53, "x")
		p.proto = proto
		drops(t, box(t, 1), api.Inside, p, api.BadProto)
		p = udp(far, 53, out, lo, "x")
		p.proto = proto
		drops(t, box(t, 1), api.Outside, p, api.BadProto)
	}
	// Of a piece, too, the protocol is looked at first.
	drops(t, box(t, 1), api.Inside, packet{place: more, lives: 9, proto: 2, src: net + 1, dst: far, body: "12345678"}, api.BadProto)
}

// Of two faults the one that the document names first is told.
func TestP4Order(t *testing.T) {
	p := packet{place: more, lives: 1, proto: 2, src: far, dst: far, body: "short"}
	sour := func() string {
		raw := p.raw()
		return put(raw, 10, string([]byte{raw[10] ^ 255}))
	}
	receive(t, box(t, 1), 2, put(sour(), 0, "\x00"), api.BadSide, nil)
	receive(t, box(t, 1), api.Inside, put(sour(), 0, "\x00"), api.Malformed, nil)
	receive(t, box(t, 1), api.Inside, put(sour(), 6, word(0x8000)), api.Malformed, nil)
	receive(t, box(t, 1), api.Inside, sour()+"x", api.Malformed, nil)
	receive(t, box(t, 1), api.Inside, sour(), api.BadSum, nil)
	drops(t, box(t, 1), api.Inside, p, api.Malformed)
	p.place = 0
	receive(t, box(t, 1), api.Inside, sour(), api.BadSum, nil)
	drops(t, box(t, 1), api.Inside, p, api.Expired)
	p.lives = 2
	drops(t, box(t, 1), api.Inside, p, api.BadAddr)
	p.src = net + 1
	drops(t, box(t, 1), api.Inside, p, api.BadProto)
	p.proto = api.UDP
	drops(t, box(t, 1), api.Inside, p, api.BadBody)
}
