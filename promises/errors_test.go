package promises

import (
	"encoding/hex"
	"testing"

	"gateway/api"
	"gateway/gateway"
)

// trouble is an ICMP error about a packet's bytes; its code, and the four bytes that mean nothing here, are not 0.
func trouble(kind, src, dst int, about string) packet {
	body := string([]byte{byte(kind), 1, 0, 0}) + "\x01\x02\x03\x04" + about
	return packet{service: 2, number: 3, place: dontCut, lives: 40, proto: api.ICMP, src: src, dst: dst, body: body}.sealed()
}

// inverted is 65,535 less each word.
func inverted(s string) string {
	b := []byte(s)
	for i := range b {
		b[i] ^= 255
	}
	return string(b)
}

// changed is a packet's bytes with other ends, as P14 tells it word by word; of ICMP from is the number.
func changed(about string, src, from, dst, to int) string {
	head := resum(put(about[:20], 12, address(src)+address(dst)))
	body := about[20:]
	proto := int(about[9])
	at := packet{proto: proto}.sumPlace()
	old, fresh := about[12:24], address(src)+address(dst)+word(from)+word(to)
	if proto == api.ICMP {
		old, fresh = body[4:6], word(from)
		body = put(body, 4, fresh)
	} else {
		body = put(body, 0, fresh[8:])
	}
	if len(body) < at+2 || proto == api.UDP && body[6:8] == "\x00\x00" {
		return head + body
	}
	sum := 65535 - folded(inverted(body[at:at+2])+inverted(old)+fresh)
	if sum == 0 && proto == api.UDP {
		sum = 65535
	}
	return head + put(body, at, word(sum))
}

// tells: an error from outside about bytes reaches an inner address, about other bytes.
func tells(t *testing.T, b *gateway.Box, about string, dst int, other string) {
	t.Helper()
	sends(t, b, api.Outside, trouble(3, far+9, out, about), api.Inside, trouble(3, far+9, dst, other))
}

// complains: an error from inside about bytes goes out, about other bytes.
func complains(t *testing.T, b *gateway.Box, about string, other string) {
	t.Helper()
	sends(t, b, api.Inside, trouble(3, net+5, far+9, about), api.Outside, trouble(3, out, far+9, other))
}

// busy is a box with a session of each protocol from net+1 to far, all begun five units of time ago: UDP from 9 to 53, TCP from 9 to 80, an echo of number 7. The outer ports are lo+1, as those at lo are net+2's.
func busy(t *testing.T) *gateway.Box {
	t.Helper()
	b := box(t, 3)
	asks(t, b, net+2, 4, far+1, 53, lo)
	calls(t, b, net+2, 4, far+1, 80, api.SYN, lo)
	pings(t, b, net+2, 0, far+1, lo)
	asks(t, b, net+1, 9, far, 53, lo+1)
	calls(t, b, net+1, 9, far, 80, api.SYN, lo+1)
	pings(t, b, net+1, 7, far, lo+1)
	tick(t, b, 5)
	return b
}

// Each pair is a packet that went out, or would come in, and how it lay inside.
func pairsOut() [][2]packet {
	return [][2]packet{
		{udp(out, lo+1, far, 53, "some data"), udp(net+1, 9, far, 53, "some data")},
		{tcp(out, lo+1, far, 80, api.SYN), tcp(net+1, 9, far, 80, api.SYN)},
		{icmp(8, out, far, lo+1, "some ping"), icmp(8, net+1, far, 7, "some ping")},
	}
}

func pairsIn() [][2]packet {
	return [][2]packet{
		{udp(far, 53, out, lo+1, "some data"), udp(far, 53, net+1, 9, "some data")},
		{tcp(far, 80, out, lo+1, api.ACK), tcp(far, 80, net+1, 9, api.ACK)},
		{icmp(0, far, out, lo+1, "some ping"), icmp(0, far, net+1, 7, "some ping")},
	}
}

// However few bytes of the packet are there, what is there is as if the packet had gone the other way.
func TestP14EveryLength(t *testing.T) {
	b := busy(t)
	before := b.Show()
	for i := range 3 {
		outer, inner := pairsOut()[i][0].raw(), pairsOut()[i][1].raw()
		for n := 28; n <= len(outer); n++ {
			want := inner[:n]
			if n == 37 && i == 1 {
				// One byte of the checksum is there: it stays.
				want = want[:36] + outer[36:37]
			}
			tells(t, b, outer[:n], net+1, want)
		}
		outer, inner = pairsIn()[i][0].raw(), pairsIn()[i][1].raw()
		for n := 28; n <= len(outer); n++ {
			want := outer[:n]
			if n == 37 && i == 1 {
				want = want[:36] + inner[36:37]
			}
			complains(t, b, inner[:n], want)
		}
	}
	if s := b.Show(); s != before {
		t.Errorf("Show = %q, want %q", s, before)
	}
}

func TestP14TooShort(t *testing.T) {
	b := busy(t)
	for i := range 3 {
		outer, inner := pairsOut()[i][0].raw(), pairsIn()[i][1].raw()
		for n := range 28 {
			stands(t, b, api.Outside, trouble(3, far, out, outer[:n]), api.BadBody)
			stands(t, b, api.Inside, trouble(3, net+1, far, inner[:n]), api.BadBody)
			stands(t, b, api.Inside, trouble(3, net+1, out, inner[:n]), api.BadBody)
		}
	}
}

func TestP14KindsAndCodes(t *testing.T) {
	b := busy(t)
	outer, inner := udp(out, lo+1, far, 53, "x").raw(), udp(net+1, 9, far, 53, "x").raw()
	back, home := udp(far, 53, out, lo+1, "x").raw(), udp(far, 53, net+1, 9, "x").raw()
	for kind := range 256 {
		for _, code := range []int{0, 1, 3, 255} {
			in := trouble(3, far+9, out, outer).ofKind(kind, code)
			ex := trouble(3, net+1, far+9, home).ofKind(kind, code)
			switch {
			case kind == 3 || kind == 11 || kind == 12:
				sends(t, b, api.Outside, in, api.Inside, trouble(3, far+9, net+1, inner).ofKind(kind, code))
				sends(t, b, api.Inside, ex, api.Outside, trouble(3, out, far+9, back).ofKind(kind, code))
			case code == 0 && (kind == 0 || kind == 8):
			default:
				stands(t, b, api.Outside, in, api.BadBody)
				stands(t, b, api.Inside, ex, api.BadBody)
			}
		}
	}
}

// headed gives the packet in an error another header, whose checksum is right.
func headed(about string, at int, v string) string { return resum(put(about, at, v)) }

func TestP14AboutForm(t *testing.T) {
	b := busy(t)
	for i := range 3 {
		outer, inner := pairsOut()[i][0].raw(), pairsIn()[i][1].raw()
		bad := func(of func(about string) string) {
			t.Helper()
			stands(t, b, api.Outside, trouble(11, far, out, of(outer)), api.BadBody)
			stands(t, b, api.Inside, trouble(11, net+1, far, of(inner)), api.BadBody)
			// A form that is wrong comes before all else.
			stands(t, b, api.Inside, trouble(11, net+1, out, of(inner)), api.BadBody)
			stands(t, b, api.Outside, trouble(11, far, out, of(inner)), api.BadBody)
			stands(t, b, api.Inside, trouble(11, net+1, far, of(outer)), api.BadBody)
		}
		for _, v := range []string{"\x00", "\x44", "\x46", "\x55", "\xff"} {
			bad(func(s string) string { return headed(s, 0, v) })
		}
		for _, proto := range []int{0, 2, 5, 7, 16, 18, 255} {
			bad(func(s string) string { return headed(s, 9, string([]byte{byte(proto)})) })
		}
		for bit := range 13 {
			bad(func(s string) string { return headed(s, 6, word(1<<bit)) })
			bad(func(s string) string { return headed(s, 6, word(1<<bit|more)) })
		}
		for at := range 20 {
			bad(func(s string) string { return put(s, at, string([]byte{s[at] ^ 16})) })
		}
	}
}

// Nothing else is asked of that header: it was cut, and it has been on its way.
func TestP14AboutAnyHeader(t *testing.T) {
	b := busy(t)
	for i := range 3 {
		outer, inner := pairsOut()[i][0].raw(), pairsOut()[i][1].raw()
		back, home := pairsIn()[i][0].raw(), pairsIn()[i][1].raw()
		for _, c := range []struct {
			at int
			v  string
		}{
			{1, "\xff"}, {2, word(0)}, {2, word(20)}, {2, word(28)}, {2, word(65535)}, {4, "zz"},
			{6, word(0x8000)}, {6, word(0x4000)}, {6, word(0x2000)}, {6, word(0xe000)}, {8, "\x00"}, {8, "\x01"}, {8, "\xff"},
		} {
			tells(t, b, headed(outer, c.at, c.v), net+1, headed(inner, c.at, c.v))
			complains(t, b, headed(home, c.at, c.v), headed(back, c.at, c.v))
		}
	}
}

// A header's checksum of 0 and of 65,535 may both be right; the one that is made is what it is.
func TestP14AboutHeaderSumAtTheEdge(t *testing.T) {
	b := busy(t)
	for _, sum := range []string{"\x00\x00", "\xff\xff"} {
		outer := put(udp(out, lo+1, far, 53, "x").raw(), 4, "\x00\x00")
		number := word(65535 - folded(put(outer, 10, "\x00\x00")[:20]))
		outer = put(put(outer, 4, number), 10, sum)
		tells(t, b, outer, net+1, headed(udp(net+1, 9, far, 53, "x").raw(), 4, number))
	}
	inner := put(put(udp(net+1, 9, far, 53, "x").raw(), 4, "\x00\x00"), 10, "\x00\x00")
	number := word(65535 - folded(inner[:20]))
	tells(t, b, headed(udp(out, lo+1, far, 53, "x").raw(), 4, number), net+1, put(inner, 4, number))
}

func TestP14FromOutsideUnasked(t *testing.T) {
	b := busy(t)
	for _, p := range []packet{
		// From another address than the outer one.
		udp(far, lo+1, far, 53, "x"), udp(net+1, lo+1, far, 53, "x"), udp(net+1, 9, far, 53, "x"),
		tcp(out+1, lo+1, far, 80, api.SYN), icmp(8, net+1, far, 7, "x"), icmp(8, out-1, far, lo+1, "x"),
		// From a port that is nobody's, or somebody else's.
		udp(out, lo+2, far, 53, "x"), udp(out, lo, far, 53, "x"), udp(out, 9, far, 53, "x"), udp(out, 0, far, 53, "x"),
		tcp(out, lo+2, far, 80, api.SYN), tcp(out, lo, far, 80, api.SYN),
		icmp(8, out, far, lo+2, "x"), icmp(8, out, far, lo, "x"), icmp(8, out, far, 7, "x"), icmp(8, out, far, 0, "x"),
		// To another far end.
		udp(out, lo+1, far+1, 53, "x"), udp(out, lo+1, far, 54, "x"), udp(out, lo+1, far, 80, "x"), udp(out, lo+1, far, 0, "x"),
		tcp(out, lo+1, far+1, 80, api.SYN), tcp(out, lo+1, far, 53, api.SYN),
		icmp(8, out, far+1, lo+1, "x"), icmp(8, out, out, lo+1, "x"),
		// What came in is not what went out.
		udp(far, 53, out, lo+1, "x"), udp(far, 53, net+1, 9, "x"), tcp(far, 80, out, lo+1, api.ACK), icmp(0, far, out, lo+1, "x"),
	} {
		stands(t, b, api.Outside, trouble(3, far, out, p.raw()), api.Unasked)
	}
	for kind := range 256 {
		if kind == 8 {
			continue
		}
		stands(t, b, api.Outside, trouble(3, far, out, icmp(kind, out, far, lo+1, "x").raw()), api.Unasked)
		stands(t, b, api.Outside, trouble(3, far, out, icmp(kind, out, far, 0, "x").raw()), api.Unasked)
	}
	// Form comes before who asked for it.
	p := trouble(3, far, out, udp(out, lo+2, far, 53, "x").raw())
	p.body = put(p.body, 5, "z")
	stands(t, b, api.Outside, p, api.BadSum)
}

func TestP14FromInsideUnasked(t *testing.T) {
	b := busy(t)
	for i := range 3 {
		stands(t, b, api.Inside, trouble(3, net+1, out, pairsIn()[i][1].raw()), api.Unasked)
	}
	for _, p := range []packet{
		// From another far end.
		udp(far+1, 53, net+1, 9, "x"), udp(far, 54, net+1, 9, "x"), udp(far, 80, net+1, 9, "x"), udp(out, 53, net+1, 9, "x"), udp(far, 0, net+1, 9, "x"),
		tcp(far+1, 80, net+1, 9, api.ACK), tcp(far, 53, net+1, 9, api.ACK), icmp(0, far+1, net+1, 7, "x"), icmp(0, out, net+1, 7, "x"),
		// To another inner end, or to none.
		udp(far, 53, net+2, 9, "x"), udp(far, 53, net+1, 8, "x"), udp(far, 53, net+1, lo+1, "x"), udp(far, 53, net+2, 4, "x"),
		udp(far, 53, out, lo+1, "x"), udp(far, 53, out, 9, "x"), udp(far, 53, far, 9, "x"),
		tcp(far, 80, net+2, 9, api.ACK), tcp(far, 80, net+1, 8, api.ACK), tcp(far, 80, out, lo+1, api.ACK),
		icmp(0, far, net+2, 7, "x"), icmp(0, far, net+1, 8, "x"), icmp(0, far, net+1, 9, "x"), icmp(0, far, net+1, 0, "x"), icmp(0, far, out, lo+1, "x"),
		// What went out is not what came in.
		udp(net+1, 9, far, 53, "x"), udp(out, lo+1, far, 53, "x"), tcp(net+1, 9, far, 80, api.SYN), icmp(8, net+1, far, 7, "x"),
	} {
		stands(t, b, api.Inside, trouble(3, net+1, far, p.raw()), api.Unasked)
	}
	for kind := 1; kind < 256; kind++ {
		stands(t, b, api.Inside, trouble(3, net+1, far, icmp(kind, far, net+1, 7, "x").raw()), api.Unasked)
		// net+2 has asked with the number 0, which is no other message's.
		stands(t, b, api.Inside, trouble(3, net+1, far, icmp(kind, far+1, net+2, 0, "x").raw()), api.Unasked)
	}
	complains(t, b, icmp(0, far+1, net+2, 0, "x").raw(), icmp(0, far+1, out, lo, "x").raw())
	p := trouble(3, net+1, far, udp(far, 54, net+1, 9, "x").raw())
	p.body = put(p.body, 5, "z")
	stands(t, b, api.Inside, p, api.BadSum)
}

// The code of the echo or reply that an error is about is not looked at.
func TestP14AboutAnyCode(t *testing.T) {
	b := busy(t)
	for code := range 256 {
		tells(t, b, icmp(8, out, far, lo+1, "x").ofKind(8, code).raw(), net+1, icmp(8, net+1, far, 7, "x").ofKind(8, code).raw())
		complains(t, b, icmp(0, far, net+1, 7, "x").ofKind(0, code).raw(), icmp(0, far, out, lo+1, "x").ofKind(0, code).raw())
	}
}

// Whoever the packet's far end and inner end are, an error may come from any other; it goes to, or by the name of, the one that it concerns.
func TestP14WhoTells(t *testing.T) {
	b := busy(t)
	outer, inner := udp(out, lo+1, far, 53, "x").raw(), udp(net+1, 9, far, 53, "x").raw()
	back, home := udp(far, 53, out, lo+1, "x").raw(), udp(far, 53, net+1, 9, "x").raw()
	for _, a := range []int{far, far + 1, 0, 1<<32 - 1, net - 1, net + 1<<24, out + 1} {
		sends(t, b, api.Outside, trouble(3, a, out, outer), api.Inside, trouble(3, a, net+1, inner))
		sends(t, b, api.Inside, trouble(3, net+1, a, home), api.Outside, trouble(3, out, a, back))
		sends(t, b, api.Inside, trouble(3, net+77, a, home), api.Outside, trouble(3, out, a, back))
	}
	stands(t, b, api.Outside, trouble(3, out, out, outer), api.BadAddr)
	stands(t, b, api.Outside, trouble(3, net+1, out, outer), api.BadAddr)
	stands(t, b, api.Outside, trouble(3, far, net+1, outer), api.BadAddr)
	stands(t, b, api.Inside, trouble(3, far, far+1, home), api.BadAddr)
	stands(t, b, api.Inside, trouble(3, net+1, net+2, home), api.BadAddr)
	// Each of two inner ends hears of its own packets.
	tells(t, b, udp(out, lo, far+1, 53, "x").raw(), net+2, udp(net+2, 4, far+1, 53, "x").raw())
	tells(t, b, tcp(out, lo, far+1, 80, 0).raw(), net+2, tcp(net+2, 4, far+1, 80, 0).raw())
	tells(t, b, icmp(8, out, far+1, lo, "x").raw(), net+2, icmp(8, net+2, far+1, 0, "x").raw())
	complains(t, b, udp(far+1, 53, net+2, 4, "x").raw(), udp(far+1, 53, out, lo, "x").raw())
}

// A session between neighbours has the outer address as its far end's.
func TestP14Neighbours(t *testing.T) {
	b := busy(t)
	drops(t, b, api.Inside, udp(net+1, 9, out, lo, "x"), api.Filtered)
	before := b.Show()
	tells(t, b, udp(out, lo+1, out, lo, "x").raw(), net+1, udp(net+1, 9, out, lo, "x").raw())
	complains(t, b, udp(out, lo, net+1, 9, "x").raw(), udp(out, lo, out, lo+1, "x").raw())
	if s := b.Show(); s != before {
		t.Errorf("Show = %q, want %q", s, before)
	}
	stands(t, b, api.Outside, trouble(3, far, out, udp(out, lo, out, lo+1, "x").raw()), api.Unasked)
	stands(t, b, api.Inside, trouble(3, net+1, far, udp(out, lo+1, net+2, 4, "x").raw()), api.Unasked)
}

// No session rests anew, nor stands otherwise: not by the error, and not by the flags of the packet that it is about.
func TestP14NothingRests(t *testing.T) {
	b := busy(t)
	for _, flags := range []int{api.RST, api.FIN, api.SYN | api.ACK, api.ACK} {
		tells(t, b, tcp(out, lo+1, far, 80, flags).raw(), net+1, tcp(net+1, 9, far, 80, flags).raw())
		complains(t, b, tcp(far, 80, net+1, 9, flags).raw(), tcp(far, 80, out, lo+1, flags).raw())
	}
	tells(t, b, icmp(8, out, far, lo+1, "x").raw(), net+1, icmp(8, net+1, far, 7, "x").raw())
	complains(t, b, icmp(0, far, net+1, 7, "x").raw(), icmp(0, far, out, lo+1, "x").raw())
	shows(t, b, "time 5",
		session(1, net+1, 7, lo+1, far, 0, 0, 10), session(1, net+2, 0, lo, far+1, 0, 0, 10),
		session(6, net+1, 9, lo+1, far, 80, 1, 8), session(6, net+2, 4, lo, far+1, 80, 1, 8),
		session(17, net+1, 9, lo+1, far, 53, 0, 30), session(17, net+2, 4, lo, far+1, 53, 0, 30))
	tick(t, b, 3)
	stands(t, b, api.Outside, trouble(3, far, out, tcp(out, lo+1, far, 80, api.RST).raw()), api.Unasked)
	tick(t, b, 2)
	stands(t, b, api.Outside, trouble(3, far, out, icmp(8, out, far, lo+1, "x").raw()), api.Unasked)
	stands(t, b, api.Inside, trouble(3, net+1, far, icmp(0, far, net+1, 7, "x").raw()), api.Unasked)
	tick(t, b, 20)
	stands(t, b, api.Outside, trouble(3, far, out, udp(out, lo+1, far, 53, "x").raw()), api.Unasked)
}

// A checksum in the packet is changed by what changes, whether it was right or not; where it was none it stays so.
func TestP14SumsInside(t *testing.T) {
	b := busy(t)
	for v := range 65536 {
		for i := range 3 {
			if v > 3 && v < 65532 && v%251 != i {
				continue
			}
			summed := func(p packet) string { return put(p.raw(), 20+p.sumPlace(), word(v)) }
			outer, home := summed(pairsOut()[i][0]), summed(pairsIn()[i][1])
			from, port := 9, 53
			if i == 1 {
				port = 80
			}
			if i == 2 {
				from = 7
			}
			tells(t, b, outer, net+1, changed(outer, net+1, from, far, port))
			if i == 2 {
				complains(t, b, home, changed(home, far, lo+1, out, 0))
				continue
			}
			complains(t, b, home, changed(home, far, port, out, lo+1))
		}
	}
}

// A checksum that would be 0 is 65,535 for UDP, and 0 for TCP and ICMP.
func TestP14SumsInsideAtTheEdge(t *testing.T) {
	b := busy(t)
	hits := 0
	for v := range 65536 {
		for i := range 3 {
			p, q := pairsOut()[i][0], pairsOut()[i][1]
			at := 20 + p.sumPlace()
			outer := put(p.raw(), at, word(v))
			from, port := [3]int{9, 9, 7}[i], [3]int{53, 80, 0}[i]
			want := changed(outer, net+1, from, far, port)
			sum := want[at : at+2]
			if sum != "\x00\x00" && sum != "\xff\xff" {
				continue
			}
			hits++
			if v != 0 && (sum == "\x00\x00") == (i == 0) {
				t.Fatalf("protocol %d: %x", p.proto, sum)
			}
			tells(t, b, outer, net+1, put(q.raw(), at, sum))
		}
	}
	// One a protocol: but of UDP 0, which is none, lies at neither.
	if hits < 3 {
		t.Errorf("%d edges", hits)
	}
}

// A word that is put in where the same one was counts too: so nothing but UDP's checksum becomes 65,535, however the words lie; but of ICMP one word alone is put in.
func TestP14SameWords(t *testing.T) {
	c := config(1)
	c.Lo, c.Hi = 65535, 65535
	for _, number := range []int{0, 1, 65534, 65535} {
		b := boxOf(t, c)
		pings(t, b, net+1, number, far, 65535)
		for _, v := range []int{0, 1, 65534, 65535} {
			outer := put(icmp(8, out, far, 65535, "x").raw(), 22, word(v))
			tells(t, b, outer, net+1, changed(outer, net+1, number, far, 0))
			home := put(icmp(0, far, net+1, number, "x").raw(), 22, word(v))
			complains(t, b, home, changed(home, far, 65535, out, 0))
		}
	}
	b := boxOf(t, c)
	pings(t, b, net+1, 0, far, 65535)
	outer := put(icmp(8, out, far, 65535, "x").raw(), 22, "\xff\xff")
	inner := put(icmp(8, net+1, far, 0, "x").raw(), 22, "\xff\xff")
	tells(t, b, outer, net+1, inner)
	b = boxOf(t, c)
	calls(t, b, net+1, 65535, far, 80, api.SYN, 65535)
	for _, v := range []int{0, 1, 65534, 65535} {
		outer := put(tcp(out, 65535, far, 80, api.SYN).raw(), 36, word(v))
		tells(t, b, outer, net+1, changed(outer, net+1, 65535, far, 80))
	}
}

// The words of the addresses are all that changes, and they go from 65,535 and 65,534 to 0 and 0: what stays makes the sum fold to 65,535 at the least.
func TestP14WordsThatStay(t *testing.T) {
	c := config(1)
	c.Net, c.Out, c.Lo, c.Hi = 0, 0xfffffffe, 65535, 65535
	b := boxOf(t, c)
	first := tcp(0, 1, 1<<24, 80, api.SYN)
	sends(t, b, api.Inside, first, api.Outside, tcp(0xfffffffe, 65535, 1<<24, 80, api.SYN))
	for _, v := range []int{0, 1, 2, 65533, 65534, 65535} {
		outer := put(tcp(0xfffffffe, 65535, 1<<24, 80, api.SYN).raw(), 36, word(v))
		p := trouble(3, far, 0xfffffffe, outer)
		sends(t, b, api.Outside, p, api.Inside, trouble(3, far, 0, changed(outer, 0, 1, 1<<24, 80)))
	}
}

// A UDP checksum that is none stays so at either side, and so do all bytes behind the ports.
func TestP14NoSumStays(t *testing.T) {
	b := busy(t)
	tells(t, b, udp(out, lo+1, far, 53, "x").unsummed().raw(), net+1, udp(net+1, 9, far, 53, "x").unsummed().raw())
	complains(t, b, udp(far, 53, net+1, 9, "x").unsummed().raw(), udp(far, 53, out, lo+1, "x").unsummed().raw())
}

// What the packet's message says of itself is not looked at.
func TestP14AboutAnyMessage(t *testing.T) {
	b := busy(t)
	for at := 4; at < 28; at++ {
		for i := range 3 {
			p, q := pairsOut()[i][0], pairsOut()[i][1]
			if at >= len(p.body) || at == p.sumPlace() || at == p.sumPlace()+1 || i == 2 && at < 6 {
				continue
			}
			odd := func(p packet) string { return put(p.raw(), 20+at, string([]byte{p.body[at] ^ 255})) }
			tells(t, b, odd(p), net+1, odd(q))
		}
	}
}

// The error's own checksum is made, and may be 0.
func TestP14OwnSumAtTheEdge(t *testing.T) {
	b := busy(t)
	p := trouble(3, far, out, udp(out, lo+1, far, 53, "x").raw())
	q := trouble(3, far, net+1, udp(net+1, 9, far, 53, "x").raw())
	q = nulled(q, 4)
	p.body = put(p.body, 4, q.body[4:8])
	sends(t, b, api.Outside, p.sealed(), api.Inside, q)
	for _, sum := range []string{"\x00\x00", "\xff\xff"} {
		p = nulled(trouble(3, far, out, udp(out, lo+1, far, 53, "x").raw()), 4)
		q = trouble(3, far, net+1, udp(net+1, 9, far, 53, "x").raw())
		q.body = put(q.body, 4, p.body[4:8])
		p.body = put(p.body, 2, sum)
		sends(t, b, api.Outside, p, api.Inside, q.sealed())
	}
	for _, d := range []int{1, 256, 65534} {
		p = trouble(3, far, out, udp(out, lo+1, far, 53, "x").raw())
		sum := int(p.body[2])*256 + int(p.body[3])
		p.body = put(p.body, 2, word(sum+d))
		stands(t, b, api.Outside, p, api.BadSum)
	}
}

// An error as long as a packet may be.
func TestP14LongError(t *testing.T) {
	b := busy(t)
	data := ""
	for n := range 104 {
		data += string([]byte{byte(n * 7)})
	}
	tells(t, b, udp(out, lo+1, far, 53, data).raw(), net+1, udp(net+1, 9, far, 53, data).raw())
	stands(t, b, api.Outside, trouble(3, far, out, udp(out, lo+1, far, 53, data+"x").raw()), api.Malformed)
	// Bytes behind the packet are passed on as they are.
	tells(t, b, udp(out, lo+1, far, 53, "x").raw()+"beyond", net+1, udp(net+1, 9, far, 53, "x").raw()+"beyond")
}

func TestP14Example(t *testing.T) {
	b := box(t, 4)
	asks(t, b, net+1, 1000, far, 53, lo)
	raw, _ := hex.DecodeString("4500003b00030000280152b401020304cb0071050b004132000000004500001f0007000001116db2cb0071050808080813880035000bd39161736b")
	want, _ := hex.DecodeString("4500003b00030000270185b9010203040a0000010b000f2d000000004500001f0007000001119fb70a0000010808080803e80035000b153761736b")
	receive(t, b, api.Outside, string(raw), api.Sent, []api.Frame{{Side: api.Inside, Raw: string(want)}})
}
