package promises

import (
	"math"
	"math/rand"
	"testing"

	"gateway/api"
	"gateway/gateway"
)

var oddNumbers = []int{math.MinInt, math.MinInt + 1, -1 << 32, -65536, -2, -1, 0, 1, 2, 3, 17, 18, 19, 255, 65535, 65536, 1 << 20, 1<<20 + 1, 1<<32 - 1, 1 << 32, 1 << 62, math.MaxInt - 1, math.MaxInt}

func TestP1AllNumbers(t *testing.T) {
	b := box(t, 4)
	asks(t, b, net+1, 1, far, 53, lo)
	for _, n := range oddNumbers {
		b.Count(n)
		b.Held(n)
		b.Receive(n, udp(net+1, 1, far, 53, "x").raw())
		b.Receive(n, "")
		b.Tick(n)
		b.Show()
	}
	for _, n := range oddNumbers {
		for _, m := range oddNumbers {
			gateway.New(api.Config{Out: n, Net: m, Bits: n, Lo: m, Hi: n, PerSource: m, Global: n})
			gateway.New(api.Config{Out: out, Net: net, Bits: n, Lo: n, Hi: m, PerSource: n, Global: m})
			gateway.New(api.Config{Out: n, Net: m, Bits: 8, Lo: 5, Hi: 6, PerSource: 1, Global: 1})
		}
	}
}

func TestP1NoBox(t *testing.T) {
	b, e := gateway.New(api.Config{})
	if b != nil || e != api.ErrArg {
		t.Fatalf("New = %v, %d", b, e)
	}
	for _, none := range []*gateway.Box{b, {}} {
		none.Receive(api.Inside, udp(net+1, 1, far, 53, "x").raw())
		none.Receive(api.Outside, udp(far, 53, 0, 5000, "x").raw())
		none.Tick(1)
		none.Count(0)
		none.Show()
		held(t, none, net+1, 0, 0)
	}
}

// tally: what came of any string is one of the numbers, something goes out just if it is Sent, and it is counted.
func tally(t *testing.T, b *gateway.Box, side int, raw string) {
	t.Helper()
	before := counts(b)
	what, frames := b.Receive(side, raw)
	if what < 0 || what >= api.Reasons {
		t.Fatalf("Receive(%d, %x) = %d", side, raw, what)
	}
	if (len(frames) > 0) != (what == api.Sent) {
		t.Fatalf("Receive(%d, %x) = %d, %x", side, raw, what, frames)
	}
	before[what]++
	if after := counts(b); after != before {
		t.Fatalf("Receive(%d, %x) = %d: counts %v, want %v", side, raw, what, after, before)
	}
}

func TestP1AnyStrings(t *testing.T) {
	r := rand.New(rand.NewSource(1))
	b := box(t, 4)
	for range 20000 {
		s := make([]byte, r.Intn(180))
		r.Read(s)
		tally(t, b, r.Intn(4)-1, string(s))
	}
}

// Each string here is so near to a right packet that it is looked at far down.
func TestP1NearPackets(t *testing.T) {
	r := rand.New(rand.NewSource(2))
	b := box(t, 4)
	for n := range 40000 {
		src, dst, side := net+r.Intn(3), far+r.Intn(2), api.Inside
		if r.Intn(2) == 0 {
			src, dst, side = dst, out, api.Outside
		}
		proto := []int{api.ICMP, api.TCP, api.UDP}[r.Intn(3)]
		body := make([]byte, 1+r.Intn(140))
		for i := range body {
			body[i] = byte(r.Intn(256) & r.Intn(256))
		}
		p := packet{number: r.Intn(3), place: r.Intn(2) * r.Intn(1<<15), lives: r.Intn(256), proto: proto, src: src, dst: dst, body: string(body)}
		if len(body) >= 20 {
			if r.Intn(2) == 0 && proto == api.UDP {
				p.body = put(p.body, 4, word(len(body)))
			}
			if r.Intn(2) == 0 && proto == api.TCP {
				p.body = put(p.body, 12, "\x50\x02")
			}
			if proto == api.ICMP {
				p.body = put(p.body, 0, string([]byte{[]byte{0, 3, 8, 11, 12, 13}[r.Intn(6)], 0}))
			}
			if r.Intn(2) == 0 && len(body) > 28 {
				about := udp(out, lo+r.Intn(5), far, r.Intn(9), "").raw()
				about = resum(put(about, 9, string([]byte{byte(proto)})))
				p.body = put(p.body, 8, about[:20])
			}
			p = p.sealed()
		}
		tally(t, b, side, p.raw())
		if n%50 == 0 {
			tick(t, b, r.Intn(9))
		}
	}
}

func TestP2ListsAreFresh(t *testing.T) {
	b := box(t, 4)
	ask, answer := udp(net+1, 1000, far, 53, "ask"), udp(far, 53, out, lo, "answer")
	_, first := b.Receive(api.Inside, ask.raw())
	_, second := b.Receive(api.Inside, ask.raw())
	_, third := b.Receive(api.Outside, answer.raw())
	same(t, first, goes(api.Outside, udp(out, lo, far, 53, "ask")))
	first[0] = api.Frame{Side: 9, Raw: "mine"}
	for range 8 {
		first = append(first, api.Frame{Side: 8, Raw: "more"})
	}
	same(t, second, goes(api.Outside, udp(out, lo, far, 53, "ask")))
	for range 8 {
		second = append(second, api.Frame{Side: 7, Raw: "else"})
	}
	second[0].Raw = "too"
	same(t, third, goes(api.Inside, udp(far, 53, net+1, 1000, "answer")))
	if first[0].Raw != "mine" || first[1].Raw != "more" {
		t.Errorf("a list was written into: %v", first)
	}
	sends(t, b, api.Inside, ask, api.Outside, udp(out, lo, far, 53, "ask"))
	shows(t, b, "time 0", session(17, net+1, 1000, lo, far, 53, 0, 30))
}

// Whatever is dropped, what the box knows stays, deadlines among it.
func TestP2DroppedChangesNothing(t *testing.T) {
	b := box(t, 2)
	asks(t, b, net+1, 1, far, 53, lo)
	asks(t, b, net+2, 1, far, 53, lo+1)
	calls(t, b, net+1, 1, far, 80, api.SYN, lo)
	tick(t, b, 3)
	before := b.Show()
	good := udp(net+1, 1, far, 53, "x")
	late, badSum, badBody, badProto := good, good, good, good
	late.lives = 1
	badSum.body += "y"
	badSum.body = put(badSum.body, 4, word(len(badSum.body)))
	badBody.body += "y"
	badProto.proto = 2
	for i, c := range []struct {
		side int
		raw  string
		what int
	}{
		{2, good.raw(), api.BadSide},
		{api.Inside, good.raw() + "x", api.Malformed},
		{api.Inside, put(good.raw(), 4, "zz"), api.BadSum},
		{api.Inside, late.raw(), api.Expired},
		{api.Outside, good.raw(), api.BadAddr},
		{api.Inside, badProto.raw(), api.BadProto},
		{api.Inside, badBody.raw(), api.BadBody},
		{api.Inside, badSum.raw(), api.BadSum},
		{api.Inside, udp(net+3, 1, far, 53, "x").raw(), api.NoPort},
		{api.Inside, udp(net+1, 1, out, lo+2, "x").raw(), api.Unasked},
		{api.Inside, tcp(net+1, 1, far, 81, api.ACK).raw(), api.Unasked},
		{api.Inside, tcp(net+1, 1, out, lo, api.ACK).raw(), api.Unasked},
		{api.Outside, udp(far, 54, out, lo, "x").raw(), api.Unasked},
		{api.Outside, tcp(far, 80, out, lo+1, api.RST).raw(), api.Unasked},
		{api.Outside, tcp(far, 81, out, lo, api.RST).raw(), api.Unasked},
	} {
		tally(t, b, c.side, c.raw)
		receive(t, b, c.side, c.raw, c.what, nil)
		if s := b.Show(); s != before {
			t.Fatalf("case %d: Show = %q, want %q", i, s, before)
		}
	}
	for k := range 7 {
		asks(t, b, net+1, 1, far+1+k, 53, lo)
	}
	before = b.Show()
	drops(t, b, api.Inside, udp(net+1, 1, far+20, 53, "x"), api.NoSession)
	if s := b.Show(); s != before {
		t.Fatalf("NoSession: Show = %q, want %q", s, before)
	}
}

func TestP3(t *testing.T) {
	good := config(4)
	boxOf(t, good)
	cases := []struct {
		name   string
		change func(c *api.Config)
		ok     bool
	}{
		{"Out 0", func(c *api.Config) { c.Out = 0 }, false},
		{"Out 1", func(c *api.Config) { c.Out = 1 }, true},
		{"Out -1", func(c *api.Config) { c.Out = -1 }, false},
		{"Out last but one", func(c *api.Config) { c.Out = 1<<32 - 2 }, true},
		{"Out last", func(c *api.Config) { c.Out = 1<<32 - 1 }, false},
		{"Out beyond", func(c *api.Config) { c.Out = 1<<32 + out }, false},
		{"Out first of the net", func(c *api.Config) { c.Out = net }, false},
		{"Out last of the net", func(c *api.Config) { c.Out = net + 1<<24 - 1 }, false},
		{"Out before the net", func(c *api.Config) { c.Out = net - 1 }, true},
		{"Out behind the net", func(c *api.Config) { c.Out = net + 1<<24 }, true},
		{"Out in a small net", func(c *api.Config) { c.Net, c.Bits, c.Out = net, 30, net+3 }, false},
		{"Out behind a small net", func(c *api.Config) { c.Net, c.Bits, c.Out = net, 30, net+4 }, true},
		{"Bits 7", func(c *api.Config) { c.Net, c.Bits = 0, 7 }, false},
		{"Bits 8", func(c *api.Config) { c.Net, c.Bits = 0, 8 }, true},
		{"Bits 30", func(c *api.Config) { c.Bits = 30 }, true},
		{"Bits 31", func(c *api.Config) { c.Bits = 31 }, false},
		{"Bits 32", func(c *api.Config) { c.Bits = 32 }, false},
		{"Bits 33", func(c *api.Config) { c.Bits = 33 }, false},
		{"Bits 0", func(c *api.Config) { c.Bits = 0 }, false},
		{"Bits -8", func(c *api.Config) { c.Bits = -8 }, false},
		{"Net 0", func(c *api.Config) { c.Net = 0 }, true},
		{"Net below 0", func(c *api.Config) { c.Net = -1 << 24 }, false},
		{"Net beyond", func(c *api.Config) { c.Net = 1 << 32 }, false},
		{"Net the last", func(c *api.Config) { c.Net = 0xff000000 }, true},
		{"Net with its lowest bit", func(c *api.Config) { c.Net++ }, false},
		{"Net with bit 23", func(c *api.Config) { c.Net += 1 << 23 }, false},
		{"Net with bit 24", func(c *api.Config) { c.Net += 1 << 24 }, true},
		{"Net of 30 bits with bit 1", func(c *api.Config) { c.Bits, c.Net = 30, net+2 }, false},
		{"Net of 30 bits with bit 2", func(c *api.Config) { c.Bits, c.Net = 30, net+4 }, true},
		{"Lo 0", func(c *api.Config) { c.Lo, c.Hi = 0, 3 }, false},
		{"Lo 1", func(c *api.Config) { c.Lo, c.Hi = 1, 1 }, true},
		{"Lo below 0", func(c *api.Config) { c.Lo, c.Hi = -3, 3 }, false},
		{"Lo above Hi", func(c *api.Config) { c.Lo = c.Hi + 1 }, false},
		{"Lo is Hi", func(c *api.Config) { c.Lo = c.Hi }, true},
		{"Hi 65535", func(c *api.Config) { c.Lo, c.Hi = 65524, 65535 }, true},
		{"Hi 65536", func(c *api.Config) { c.Lo, c.Hi = 65530, 65536 }, false},
		{"12 ports", func(c *api.Config) { c.Hi = c.Lo + 11 }, true},
		{"13 ports", func(c *api.Config) { c.Hi = c.Lo + 12 }, false},
		{"a great many ports", func(c *api.Config) { c.Lo, c.Hi = math.MinInt, math.MaxInt }, false},
		{"PerSource 0", func(c *api.Config) { c.PerSource = 0 }, false},
		{"PerSource below 0", func(c *api.Config) { c.PerSource = -1 }, false},
		{"PerSource 1", func(c *api.Config) { c.PerSource, c.Global = 1, 1 }, true},
		{"PerSource is Global", func(c *api.Config) { c.PerSource = c.Global }, true},
		{"PerSource above Global", func(c *api.Config) { c.PerSource = c.Global + 1 }, false},
		{"Global 4096", func(c *api.Config) { c.PerSource, c.Global = 4096, 4096 }, true},
		{"Global 4097", func(c *api.Config) { c.Global = 4097 }, false},
	}
	for _, k := range cases {
		c := good
		k.change(&c)
		b, e := gateway.New(c)
		if k.ok != (b != nil) || k.ok != (e == api.OK) || !k.ok && e != api.ErrArg {
			t.Errorf("%s: New(%+v) = %v, %d", k.name, c, b, e)
		}
	}
}

func TestP3KnowsNobody(t *testing.T) {
	b := box(t, 4)
	shows(t, b, "time 0")
	if counts(b) != [api.Reasons]int{} {
		t.Errorf("counts %v", counts(b))
	}
	drops(t, b, api.Outside, udp(far, 53, out, lo, "x"), api.Unasked)
	other := box(t, 4)
	asks(t, b, net+1, 1, far, 53, lo)
	shows(t, other, "time 0")
	asks(t, other, net+2, 1, far, 53, lo)
}
