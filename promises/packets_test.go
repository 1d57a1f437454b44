// Package promises tests the calls, promise by promise, by what the document says of them alone.
package promises

import (
	"fmt"
	"strings"
	"testing"

	"gateway/api"
	"gateway/gateway"
)

const (
	out = 0xcb007105
	net = 0x0a000000
	far = 0x08080808
	lo  = 5000
)

const (
	dontCut = 0x4000
	more    = 0x2000
)

// packet is a packet as its parts; place is the whole word 6.
type packet struct {
	service, number, place, lives, proto, src, dst int
	body                                           string
}

func word(v int) string { return string([]byte{byte(v >> 8), byte(v)}) }

func address(v int) string { return word(v>>16) + word(v) }

func folded(s string) int {
	if len(s)%2 == 1 {
		s += "\x00"
	}
	t := 0
	for i := 0; i < len(s); i += 2 {
		t += int(s[i])*256 + int(s[i+1])
	}
	for t > 65535 {
		t = t%65536 + t/65536
	}
	return t
}

func put(s string, at int, v string) string { return s[:at] + v + s[at+len(v):] }

// raw lays the packet's bytes, with a header's checksum that is right.
func (p packet) raw() string {
	s := "\x45" + string([]byte{byte(p.service)}) + word(20+len(p.body)) + word(p.number) + word(p.place)
	s += string([]byte{byte(p.lives), byte(p.proto), 0, 0}) + address(p.src) + address(p.dst)
	return put(s, 10, word(65535-folded(s))) + p.body
}

// resum makes the header's checksum of bytes right again.
func resum(raw string) string {
	raw = put(raw, 10, "\x00\x00")
	return put(raw, 10, word(65535-folded(raw[:20])))
}

// pseudo is what a TCP or UDP checksum is of, besides the message.
func (p packet) pseudo() string {
	return address(p.src) + address(p.dst) + word(p.proto) + word(len(p.body))
}

// sumPlace is where the message's checksum lies.
func (p packet) sumPlace() int {
	switch p.proto {
	case api.TCP:
		return 16
	case api.UDP:
		return 6
	}
	return 2
}

// sealed is the packet with its message's checksum.
func (p packet) sealed() packet {
	p.body = put(p.body, p.sumPlace(), "\x00\x00")
	covered := p.body
	if p.proto != api.ICMP {
		covered = p.pseudo() + p.body
	}
	sum := 65535 - folded(covered)
	if sum == 0 && p.proto == api.UDP {
		sum = 65535
	}
	p.body = put(p.body, p.sumPlace(), word(sum))
	return p
}

// unsummed is a UDP packet without a checksum.
func (p packet) unsummed() packet {
	p.body = put(p.body, 6, "\x00\x00")
	return p
}

func udp(src, from, dst, to int, data string) packet {
	body := word(from) + word(to) + word(8+len(data)) + "\x00\x00" + data
	return packet{number: 7, lives: 9, proto: api.UDP, src: src, dst: dst, body: body}.sealed()
}

func tcp(src, from, dst, to, flags int) packet {
	body := word(from) + word(to) + "\x00\x00\x01\x05\x00\x00\x02\x06\x50" + string([]byte{byte(flags)}) + "\x11\x22\x00\x00\x00\x00"
	return packet{number: 8, lives: 9, proto: api.TCP, src: src, dst: dst, body: body}.sealed()
}

func icmp(kind, src, dst, number int, data string) packet {
	body := string([]byte{byte(kind), 0, 0, 0}) + word(number) + "\x00\x01" + data
	return packet{number: 9, lives: 9, proto: api.ICMP, src: src, dst: dst, body: body}.sealed()
}

// goes is what goes out at a side: the packet with a time to live of one less.
func goes(side int, p packet) []api.Frame {
	p.lives--
	return []api.Frame{{Side: side, Raw: p.raw()}}
}

func config(ports int) api.Config {
	return api.Config{Out: out, Net: net, Bits: 8, Lo: lo, Hi: lo + ports - 1, PerSource: 400, Global: 700}
}

func boxOf(t *testing.T, c api.Config) *gateway.Box {
	t.Helper()
	b, e := gateway.New(c)
	if b == nil || e != api.OK {
		t.Fatalf("New(%+v) = %v, %d", c, b, e)
	}
	return b
}

func box(t *testing.T, ports int) *gateway.Box {
	t.Helper()
	return boxOf(t, config(ports))
}

func receive(t *testing.T, b *gateway.Box, side int, raw string, what int, want []api.Frame) {
	t.Helper()
	got, frames := b.Receive(side, raw)
	if got != what {
		t.Fatalf("Receive(%d, %x) = %d, want %d", side, raw, got, what)
	}
	same(t, frames, want)
}

func same(t *testing.T, got, want []api.Frame) {
	t.Helper()
	if len(got) != len(want) {
		t.Fatalf("goes out: %x, want %x", got, want)
	}
	for i := range got {
		if got[i] != want[i] {
			t.Fatalf("goes out: %x, want %x", got[i], want[i])
		}
	}
}

// sends: the packet is sent, and goes out as the other one.
func sends(t *testing.T, b *gateway.Box, side int, p packet, outSide int, q packet) {
	t.Helper()
	receive(t, b, side, p.raw(), api.Sent, goes(outSide, q))
}

// drops: the packet is dropped.
func drops(t *testing.T, b *gateway.Box, side int, p packet, what int) {
	t.Helper()
	receive(t, b, side, p.raw(), what, nil)
}

// asks: an inner end asks a far one by UDP, and goes by an outer port.
func asks(t *testing.T, b *gateway.Box, src, from, dst, to, port int) {
	t.Helper()
	sends(t, b, api.Inside, udp(src, from, dst, to, "ask"), api.Outside, udp(out, port, dst, to, "ask"))
}

// calls: an inner end sends flags to a far one by TCP, and goes by an outer port.
func calls(t *testing.T, b *gateway.Box, src, from, dst, to, flags, port int) {
	t.Helper()
	sends(t, b, api.Inside, tcp(src, from, dst, to, flags), api.Outside, tcp(out, port, dst, to, flags))
}

func tick(t *testing.T, b *gateway.Box, n int) {
	t.Helper()
	if e := b.Tick(n); e != api.OK {
		t.Fatalf("Tick(%d) = %d", n, e)
	}
}

func shows(t *testing.T, b *gateway.Box, lines ...string) {
	t.Helper()
	want := strings.Join(lines, "\n") + "\n"
	if s := b.Show(); s != want {
		t.Fatalf("Show = %q, want %q", s, want)
	}
}

func session(proto, src, from, port, dst, to, stands, deadline int) string {
	return fmt.Sprintf("session %d %d %d %d %d %d %d %d", proto, src, from, port, dst, to, stands, deadline)
}

func counts(b *gateway.Box) [api.Reasons]int {
	var l [api.Reasons]int
	for k := range l {
		l[k] = b.Count(k)
	}
	return l
}
