package promises

import (
	"fmt"
	"math/rand"
	"sort"
	"strings"
	"testing"

	"gateway/api"
	"gateway/gateway"
)

// A second telling of P6 to P14, by other means than the program's, which long random walks are held against.

// Of ICMP from is an echo's number, and to a reply's.
type ends struct {
	proto, src, from, dst, to int
}

type known struct {
	port, stands, deadline int
	answered, done, heDone bool
}

type teller struct {
	ports  int
	now    int
	asked  map[ends]*known
	counts [api.Reasons]int
	errors int
}

// owner is who has an outer port: its address and port, and -1 if nobody has.
func (w *teller) owner(proto, port int) (int, int) {
	for e, k := range w.asked {
		if e.proto == proto && k.port == port {
			return e.src, e.from
		}
	}
	return -1, -1
}

func (w *teller) portOf(e ends) int {
	for o, k := range w.asked {
		if o.proto == e.proto && o.src == e.src && o.from == e.from {
			return k.port
		}
	}
	for port := lo; port < lo+w.ports; port++ {
		if src, _ := w.owner(e.proto, port); src < 0 {
			return port
		}
	}
	return 0
}

func (w *teller) move(e ends, inside bool, flags int) {
	k := w.asked[e]
	has := func(f int) bool { return flags&f == f }
	ticks := 30
	if e.proto == api.ICMP {
		ticks = 10
	}
	if e.proto == api.TCP {
		switch {
		case has(rst):
			k.stands = api.Closing
		case k.stands == api.Closing && inside && has(syn) && !has(ack):
			*k = known{port: k.port, stands: api.New}
		case k.stands != api.Closing:
			if k.stands == api.New && inside && k.answered && has(ack) {
				k.stands = api.Open
			}
			k.answered = k.answered || !inside && has(syn|ack)
			k.done = k.done || inside && has(fin)
			k.heDone = k.heDone || !inside && has(fin)
			if k.done && k.heDone {
				k.stands = api.Closing
			}
		}
		ticks = map[int]int{api.New: 8, api.Open: 60, api.Closing: 5}[k.stands]
	}
	k.deadline = w.now + ticks
}

// from tells what becomes of a datagram from a side, at which side it goes out, and between which ends.
func (w *teller) from(side int, e ends, flags int) (int, int, ends) {
	if side == api.Outside {
		src, from := w.owner(e.proto, e.to)
		mine := ends{e.proto, src, from, e.src, e.from}
		if w.asked[mine] == nil {
			return api.Unasked, 0, ends{}
		}
		w.move(mine, false, flags)
		return api.Sent, api.Inside, ends{e.proto, e.src, e.from, src, from}
	}
	src, from := w.owner(e.proto, e.to)
	if e.dst == out && (src < 0 || e.proto == api.ICMP) {
		return api.Unasked, 0, ends{}
	}
	if w.asked[e] == nil {
		port := w.portOf(e)
		switch {
		case e.proto == api.TCP && flags&(syn|ack|rst|fin) != syn:
			return api.Unasked, 0, ends{}
		case len(w.asked) == 10:
			return api.NoSession, 0, ends{}
		case port == 0:
			return api.NoPort, 0, ends{}
		}
		w.asked[e] = &known{port: port}
		if e.proto == api.TCP {
			w.asked[e].stands = api.New
		}
	}
	w.move(e, true, flags)
	port := w.asked[e].port
	if e.dst != out {
		return api.Sent, api.Outside, ends{e.proto, out, port, e.dst, e.to}
	}
	back := ends{e.proto, src, from, out, port}
	if w.asked[back] == nil {
		return api.Filtered, 0, ends{}
	}
	w.move(back, false, flags)
	return api.Sent, api.Inside, ends{e.proto, out, port, src, from}
}

// trouble tells what becomes of an error, and to which address and about what it goes out.
func (w *teller) trouble(side, dst int, about ends) (int, int, ends) {
	if side == api.Outside {
		src, from := w.owner(about.proto, about.from)
		inner := ends{about.proto, src, from, about.dst, about.to}
		if about.src != out || w.asked[inner] == nil {
			return api.Unasked, 0, ends{}
		}
		return api.Sent, src, inner
	}
	k := w.asked[ends{about.proto, about.dst, about.to, about.src, about.from}]
	if dst == out || k == nil {
		return api.Unasked, 0, ends{}
	}
	return api.Sent, dst, ends{about.proto, about.src, about.from, out, k.port}
}

func (w *teller) tick(n int) {
	w.now += n
	for e, k := range w.asked {
		if k.deadline <= w.now {
			delete(w.asked, e)
		}
	}
}

func (w *teller) inOrder() []ends {
	all := []ends{}
	for e := range w.asked {
		all = append(all, e)
	}
	key := func(e ends) string {
		return fmt.Sprintf("%3d%12d%6d%12d%6d", e.proto, e.src, e.from, e.dst, e.to)
	}
	sort.Slice(all, func(i, j int) bool { return key(all[i]) < key(all[j]) })
	return all
}

func (w *teller) show() string {
	lines := []string{fmt.Sprintf("time %d\n", w.now)}
	for _, e := range w.inOrder() {
		k := w.asked[e]
		lines = append(lines, session(e.proto, e.src, e.from, k.port, e.dst, e.to, k.stands, k.deadline)+"\n")
	}
	return strings.Join(lines, "")
}

func (e ends) packet(flags int, data string) packet {
	switch {
	case e.proto == api.TCP:
		return tcp(e.src, e.from, e.dst, e.to, flags)
	case e.proto == api.ICMP && (e.dst == far || e.dst == far+1 || e.dst == out && e.src>>24 == net>>24):
		return icmp(8, e.src, e.dst, e.from, data)
	case e.proto == api.ICMP:
		return icmp(0, e.src, e.dst, e.to, data)
	}
	return udp(e.src, e.from, e.dst, e.to, data)
}

// anyEnds are ends by chance: mostly nobody asked for what goes between them.
func anyEnds(r *rand.Rand, ports int) (int, ends) {
	proto := []int{api.TCP, api.UDP, api.ICMP}[r.Intn(3)]
	a, p := far+r.Intn(2), 53+r.Intn(2)
	port := lo - 1 + r.Intn(ports+2)
	if proto == api.ICMP {
		p = 0
	}
	if r.Intn(3) == 0 {
		return api.Outside, ends{proto, a, p, out, port}
	}
	if proto != api.ICMP && r.Intn(2) == 0 {
		a, p = out, port
	}
	if proto == api.ICMP && r.Intn(9) == 0 {
		a = out
	}
	return api.Inside, ends{proto, net + 1 + r.Intn(3), 9 + r.Intn(2), a, p}
}

// askedEnds are those of a session that is there, forth or back.
func (w *teller) askedEnds(r *rand.Rand) (int, ends) {
	all := w.inOrder()
	e := all[r.Intn(len(all))]
	port := w.asked[e].port
	if r.Intn(2) == 0 {
		return api.Inside, e
	}
	if e.dst != out {
		return api.Outside, ends{e.proto, e.dst, e.to, out, port}
	}
	if src, from := w.owner(e.proto, e.to); src >= 0 {
		return api.Inside, ends{e.proto, src, from, out, port}
	}
	return api.Inside, e
}

// hears: an error comes at the other side about a packet that came in at a side: mostly about what went out for it, so that somebody asked for it, and else about what came in.
func (w *teller) hears(t *testing.T, r *rand.Rand, b *gateway.Box, side int, raw string, e ends) {
	t.Helper()
	side = 1 - side
	if src, from := w.owner(e.proto, e.to); side == api.Inside && src >= 0 && r.Intn(6) > 0 {
		e.dst, e.to = src, from
		raw = changed(raw, e.src, e.sent(), e.dst, e.to)
	} else if k := w.asked[e]; side == api.Outside && k != nil && r.Intn(6) > 0 {
		e.src, e.from = out, k.port
		raw = changed(raw, e.src, e.sent(), e.dst, e.to)
	}
	raw = raw[:28+r.Intn(len(raw)-27)]
	src, dst := far+r.Intn(3), out
	if side == api.Inside {
		src, dst = net+r.Intn(9), far+r.Intn(3)
		if r.Intn(9) == 0 {
			dst = out
		}
	}
	kind := []int{3, 11, 12}[r.Intn(3)]
	what, to, o := w.trouble(side, dst, e)
	w.counts[what]++
	var want []api.Frame
	if what == api.Sent && side == api.Inside {
		want = goes(api.Outside, trouble(kind, out, to, changed(raw, o.src, o.sent(), o.dst, o.to)))
	} else if what == api.Sent {
		want = goes(api.Inside, trouble(kind, src, to, changed(raw, o.src, o.sent(), o.dst, o.to)))
	}
	receive(t, b, side, trouble(kind, src, dst, raw).raw(), what, want)
	if what == api.Sent {
		w.errors++
	}
	if got := b.Show(); got != w.show() {
		t.Fatalf("Show = %q, want %q", got, w.show())
	}
}

// sent is the port that a packet is from; of ICMP the number, whose ever it is.
func (e ends) sent() int {
	if e.proto == api.ICMP && e.from == 0 {
		return e.to
	}
	return e.from
}

func walk(t *testing.T, seed int64, ports, steps int) {
	r := rand.New(rand.NewSource(seed))
	b := box(t, ports)
	w := &teller{ports: ports, asked: map[ends]*known{}}
	flagSets := []int{syn, syn, syn, ack, ack, syn | ack, fin, fin | ack, rst, syn | fin, 0}
	for range steps {
		if r.Intn(6) == 0 {
			n := r.Intn(4) * r.Intn(4)
			tick(t, b, n)
			w.tick(n)
		}
		side, e := anyEnds(r, ports)
		if len(w.asked) > 0 && r.Intn(3) > 0 {
			side, e = w.askedEnds(r)
		}
		flags := flagSets[r.Intn(len(flagSets))]
		data := "data"[:r.Intn(5)]
		if r.Intn(4) == 0 {
			w.hears(t, r, b, side, e.packet(flags, data).raw(), e)
			continue
		}
		what, outSide, o := w.from(side, e, flags)
		w.counts[what]++
		var want []api.Frame
		if what == api.Sent {
			want = goes(outSide, o.packet(flags, data))
		}
		receive(t, b, side, e.packet(flags, data).raw(), what, want)
		if got := b.Show(); got != w.show() {
			t.Fatalf("seed %d: Show = %q, want %q", seed, got, w.show())
		}
	}
	if counts(b) != w.counts {
		t.Fatalf("seed %d: counts %v, want %v", seed, counts(b), w.counts)
	}
	t.Log(ports, w.counts, w.errors)
}

func TestWalks(t *testing.T) {
	for seed := range 40 {
		walk(t, int64(seed), 1+seed%6, 900)
	}
}
