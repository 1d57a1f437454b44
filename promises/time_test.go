package promises

import (
	"testing"

	"gateway/api"
	"gateway/gateway"
)

func TestP10Ticks(t *testing.T) {
	b := box(t, 1)
	asks(t, b, net+1, 9, far, 53, lo)
	for _, n := range oddNumbers {
		if n >= 0 && n <= 1<<20 {
			continue
		}
		if e := b.Tick(n); e != api.ErrArg {
			t.Errorf("Tick(%d) = %d", n, e)
		}
		shows(t, b, "time 0", session(17, net+1, 9, lo, far, 53, 0, 30))
	}
	tick(t, b, 0)
	shows(t, b, "time 0", session(17, net+1, 9, lo, far, 53, 0, 30))
	tick(t, b, 1<<20)
	shows(t, b, "time 1048576")
	tick(t, b, 1<<20)
	tick(t, b, 1)
	shows(t, b, "time 2097153")
	asks(t, b, net+1, 9, far, 53, lo)
	shows(t, b, "time 2097153", session(17, net+1, 9, lo, far, 53, 0, 2097183))
}

// lasts: a session is there till just before its deadline.
func lasts(t *testing.T, b *gateway.Box, n int) {
	t.Helper()
	tick(t, b, n-1)
	before := b.Show()
	tick(t, b, 0)
	if s := b.Show(); s != before {
		t.Fatalf("Show = %q, want %q", s, before)
	}
	sessions := 0
	for _, c := range before {
		if c == '\n' {
			sessions++
		}
	}
	if sessions != 2 {
		t.Fatalf("gone before its deadline: %q", before)
	}
	tick(t, b, 1)
	if s := b.Show(); len(s) > len("time 100\n") {
		t.Fatalf("there at its deadline: %q", s)
	}
}

func TestP10Deadlines(t *testing.T) {
	b := box(t, 1)
	asks(t, b, net+1, 9, far, 53, lo)
	lasts(t, b, 30)
	b = box(t, 1)
	calls(t, b, net+1, 9, far, 80, api.SYN, lo)
	lasts(t, b, 8)
	b = talking(t)
	lasts(t, b, 60)
	b = talking(t)
	calls(t, b, net+1, 9, far, 80, api.RST, lo)
	lasts(t, b, 5)
}

// A step over many units takes all whose deadline lies in it, and no others.
func TestP10ManyAtOnce(t *testing.T) {
	b := box(t, 4)
	asks(t, b, net+1, 9, far, 53, lo)
	calls(t, b, net+1, 9, far, 80, api.SYN, lo)
	tick(t, b, 4)
	asks(t, b, net+2, 9, far, 53, lo+1)
	calls(t, b, net+2, 9, far, 80, api.SYN, lo+1)
	tick(t, b, 4)
	shows(t, b, "time 8",
		session(6, net+2, 9, lo+1, far, 80, 1, 12),
		session(17, net+1, 9, lo, far, 53, 0, 30),
		session(17, net+2, 9, lo+1, far, 53, 0, 34))
	tick(t, b, 24)
	shows(t, b, "time 32", session(17, net+2, 9, lo+1, far, 53, 0, 34))
	drops(t, b, api.Outside, udp(far, 53, out, lo, "x"), api.Unasked)
}

// talking is a box with one TCP session, which is Open.
func talking(t *testing.T) *gateway.Box {
	t.Helper()
	b := box(t, 1)
	calls(t, b, net+1, 9, far, 80, api.SYN, lo)
	sends(t, b, api.Outside, tcp(far, 80, out, lo, api.SYN|api.ACK), api.Inside, tcp(far, 80, net+1, 9, api.SYN|api.ACK))
	calls(t, b, net+1, 9, far, 80, api.ACK, lo)
	shows(t, b, "time 0", session(6, net+1, 9, lo, far, 80, 2, 60))
	return b
}

const (
	syn, ack, rst, fin = api.SYN, api.ACK, api.RST, api.FIN
)

// Each step is a message from a side with flags, and how the session stands behind it.
type step struct {
	side, flags, stands int
}

func in(flags, stands int) step { return step{api.Outside, flags, stands} }

func ex(flags, stands int) step { return step{api.Inside, flags, stands} }

func TestP11(t *testing.T) {
	ticks := []int{0, 8, 60, 5}
	for i, steps := range [][]step{
		{ex(syn, 1), ex(ack, 1), in(ack, 1), ex(ack, 1)},
		{ex(syn, 1), in(syn, 1), ex(ack, 1), in(syn|ack, 1), ex(syn, 1), ex(0, 1), in(ack, 1), ex(ack, 2)},
		{ex(syn, 1), ex(syn|ack, 1), ex(ack, 1)},
		{ex(syn, 1), in(syn|ack|8, 1), ex(syn|ack, 2), ex(syn, 2), in(syn, 2), in(syn|ack, 2), ex(0, 2)},
		// Resets, from New and Open, from either side.
		{ex(syn, 1), ex(rst, 3)},
		{ex(syn, 1), in(rst, 3)},
		{ex(syn, 1), in(rst|syn|ack, 3), ex(ack, 3)},
		{ex(syn, 1), in(syn|ack, 1), ex(ack|rst, 3)},
		{ex(syn, 1), in(syn|ack, 1), ex(ack, 2), in(rst, 3)},
		{ex(syn, 1), in(syn|ack, 1), ex(ack, 2), ex(rst|ack|fin, 3)},
		// Closing stays, but by a SYN from inside.
		{ex(syn, 1), ex(rst, 3), ex(ack, 3), in(syn, 3), in(syn|ack, 3), ex(syn|ack, 3), ex(fin, 3), in(fin, 3), ex(syn|rst, 3), in(0, 3), ex(syn, 1)},
		// Then all is forgotten: who answered, and who was done.
		{ex(syn, 1), in(syn|ack, 1), ex(rst, 3), ex(syn, 1), ex(ack, 1), in(syn|ack, 1), ex(ack, 2)},
		{ex(syn, 1), in(syn|ack, 1), ex(ack|fin, 2), in(rst, 3), ex(syn, 1), in(fin, 1), ex(fin, 3)},
		{ex(syn, 1), in(syn|ack, 1), ex(ack|fin, 2), in(fin, 3), ex(syn, 1), ex(ack, 1), in(fin, 1), ex(fin, 3)},
		{ex(syn, 1), in(fin, 1), ex(fin, 3), ex(syn, 1), ex(fin, 1), ex(ack, 1), in(fin, 3)},
		{ex(syn, 1), in(rst, 3), in(syn|ack, 3), ex(syn, 1), ex(ack, 1)},
		{ex(syn, 1), in(rst|fin, 3), in(fin, 3), ex(syn, 1), ex(fin, 1)},
		// Nothing else of that SYN is looked at.
		{ex(syn, 1), ex(rst, 3), ex(syn|fin, 1), in(fin, 1), ex(fin, 3)},
		{ex(syn, 1), ex(rst, 3), ex(syn|rst, 3), ex(syn|fin, 1), in(syn|ack, 1), ex(ack, 2), in(fin, 2), ex(ack, 2), ex(fin, 3)},
		// Both sides done, in either order, in New and Open.
		{ex(syn, 1), in(syn|ack, 1), ex(ack, 2), ex(fin, 2), ex(fin|ack, 2), in(ack, 2), in(fin, 3), ex(ack, 3)},
		{ex(syn, 1), in(syn|ack, 1), ex(ack, 2), in(fin, 2), in(fin, 2), ex(ack, 2), ex(fin|ack, 3)},
		{ex(syn, 1), ex(fin, 1), in(fin, 3)},
		{ex(syn, 1), in(fin, 1), ex(fin, 3)},
		// A message that opens may be the last one too.
		{ex(syn, 1), in(syn|ack|fin, 1), ex(ack|fin, 3)},
		{ex(syn, 1), in(syn|ack|fin, 1), ex(ack, 2), ex(fin, 3)},
		{ex(syn, 1), ex(fin, 1), in(syn|ack, 1), ex(ack, 2), in(fin, 3)},
		{ex(syn, 1), ex(fin, 1), in(syn|ack|fin, 3)},
		// A SYN amid an open session is nothing.
		{ex(syn, 1), in(syn|ack, 1), ex(ack, 2), ex(fin, 2), ex(syn, 2), in(fin, 3)},
		// Other flags are nothing.
		{ex(syn|0xe8, 1), in(0xe8, 1), in(syn|ack|0xe8, 1), ex(0xe8, 1), ex(ack|0xe8, 2)},
	} {
		b := box(t, 1)
		for k, s := range steps {
			tick(t, b, 1)
			if s.side == api.Inside {
				calls(t, b, net+1, 9, far, 80, s.flags, lo)
			} else {
				sends(t, b, api.Outside, tcp(far, 80, out, lo, s.flags), api.Inside, tcp(far, 80, net+1, 9, s.flags))
			}
			want := "time " + itoa(k+1) + "\n" + session(6, net+1, 9, lo, far, 80, s.stands, k+1+ticks[s.stands]) + "\n"
			if got := b.Show(); got != want {
				t.Fatalf("talk %d, behind step %d: Show = %q, want %q", i, k, got, want)
			}
		}
	}
}

// Sessions of one inner end stand each for itself.
func TestP11EachForItself(t *testing.T) {
	b := box(t, 1)
	calls(t, b, net+1, 9, far, 80, syn, lo)
	calls(t, b, net+1, 9, far, 81, syn, lo)
	sends(t, b, api.Outside, tcp(far, 80, out, lo, syn|ack), api.Inside, tcp(far, 80, net+1, 9, syn|ack))
	calls(t, b, net+1, 9, far, 81, ack, lo)
	calls(t, b, net+1, 9, far, 80, ack, lo)
	sends(t, b, api.Outside, tcp(far, 81, out, lo, rst), api.Inside, tcp(far, 81, net+1, 9, rst))
	shows(t, b, "time 0", session(6, net+1, 9, lo, far, 80, 2, 60), session(6, net+1, 9, lo, far, 81, 3, 5))
}
