package promises

import (
	"testing"

	"gateway/api"
)

func TestP6OnePortForAnInnerEnd(t *testing.T) {
	b := box(t, 4)
	asks(t, b, net+1, 1, far, 53, lo)
	asks(t, b, net+1, 2, far, 53, lo+1)
	asks(t, b, net+2, 1, far, 53, lo+2)
	// The same inner end to other far ends.
	asks(t, b, net+1, 1, far, 54, lo)
	asks(t, b, net+1, 1, far+1, 53, lo)
	asks(t, b, net+1, 2, far+1, 53, lo+1)
	asks(t, b, net+2, 1, far+1, 9, lo+2)
	// Another protocol has ports of its own.
	calls(t, b, net+2, 1, far, 53, api.SYN, lo)
	calls(t, b, net+1, 1, far, 53, api.SYN, lo+1)
	shows(t, b, "time 0",
		session(6, net+1, 1, lo+1, far, 53, 1, 8),
		session(6, net+2, 1, lo, far, 53, 1, 8),
		session(17, net+1, 1, lo, far, 53, 0, 30),
		session(17, net+1, 1, lo, far, 54, 0, 30),
		session(17, net+1, 1, lo, far+1, 53, 0, 30),
		session(17, net+1, 2, lo+1, far, 53, 0, 30),
		session(17, net+1, 2, lo+1, far+1, 53, 0, 30),
		session(17, net+2, 1, lo+2, far, 53, 0, 30),
		session(17, net+2, 1, lo+2, far+1, 9, 0, 30))
}

func TestP6PortIsFreeWithTheLastSession(t *testing.T) {
	b := box(t, 2)
	asks(t, b, net+1, 1, far, 53, lo)
	asks(t, b, net+2, 1, far, 53, lo+1)
	tick(t, b, 20)
	asks(t, b, net+1, 1, far, 54, lo)
	tick(t, b, 10)
	shows(t, b, "time 30", session(17, net+1, 1, lo, far, 54, 0, 50))
	// The first's port is still its own; the second's is free.
	asks(t, b, net+3, 1, far, 53, lo+1)
	drops(t, b, api.Inside, udp(net+2, 1, far, 53, "x"), api.NoPort)
	asks(t, b, net+1, 1, far, 53, lo)
	tick(t, b, 20)
	drops(t, b, api.Inside, udp(net+2, 1, far, 53, "x"), api.NoPort)
	tick(t, b, 10)
	asks(t, b, net+2, 1, far, 53, lo)
	drops(t, b, api.Outside, udp(far, 54, out, lo, "x"), api.Unasked)
}

func TestP6LowestPort(t *testing.T) {
	b := box(t, 12)
	for k := range 5 {
		asks(t, b, net+1+k, 1, far, 53, lo+k)
		tick(t, b, 2)
	}
	tick(t, b, 20)
	// The first is gone at 30, the second rests anew, the third is gone at 34.
	asks(t, b, net+2, 1, far, 53, lo+1)
	tick(t, b, 4)
	asks(t, b, net+10, 1, far, 53, lo)
	asks(t, b, net+11, 1, far, 53, lo+2)
	asks(t, b, net+12, 1, far, 53, lo+5)
}

func TestP6AtMostTenSessions(t *testing.T) {
	b := box(t, 12)
	for k := range 5 {
		asks(t, b, net+1+k, 1, far, 53, lo+k)
		calls(t, b, net+1+k, 1, far, 53, api.SYN, lo+k)
	}
	for _, p := range []packet{udp(net+9, 1, far, 53, "x"), udp(net+1, 1, far, 54, "x"), udp(net+1, 1, out, lo+1, "x"), tcp(net+1, 1, far, 54, api.SYN), tcp(net+9, 1, far, 53, api.SYN)} {
		drops(t, b, api.Inside, p, api.NoSession)
	}
	// What has a session goes by.
	asks(t, b, net+1, 1, far, 53, lo)
	sends(t, b, api.Outside, udp(far, 53, out, lo+4, "x"), api.Inside, udp(far, 53, net+5, 1, "x"))
	tick(t, b, 8)
	for k := range 5 {
		calls(t, b, net+9, 1, far+k, 53, api.SYN, lo)
	}
	drops(t, b, api.Inside, tcp(net+9, 1, far+5, 54, api.SYN), api.NoSession)
}

func TestP7WhoMayBegin(t *testing.T) {
	for flags := range 256 {
		b := box(t, 1)
		p := tcp(net+1, 1, far, 80, flags)
		if flags&(api.SYN|api.ACK|api.RST|api.FIN) != api.SYN {
			drops(t, b, api.Inside, p, api.Unasked)
			shows(t, b, "time 0")
			continue
		}
		sends(t, b, api.Inside, p, api.Outside, tcp(out, lo, far, 80, flags))
		shows(t, b, "time 0", session(6, net+1, 1, lo, far, 80, 1, 8))
	}
}

// Any message goes out by a session that is there.
func TestP7AnyFlagsByASession(t *testing.T) {
	for flags := range 256 {
		b := box(t, 1)
		calls(t, b, net+1, 1, far, 80, api.SYN, lo)
		calls(t, b, net+1, 1, far, 80, flags, lo)
		sends(t, b, api.Outside, tcp(far, 80, out, lo, flags), api.Inside, tcp(far, 80, net+1, 1, flags))
	}
}

func TestP7Order(t *testing.T) {
	b := box(t, 1)
	calls(t, b, net+1, 1, far, 80, api.SYN, lo)
	// No SYN before no port; no port of that neighbour before no SYN.
	drops(t, b, api.Inside, tcp(net+2, 1, far, 80, api.ACK), api.Unasked)
	drops(t, b, api.Inside, tcp(net+2, 1, far, 80, api.SYN), api.NoPort)
	drops(t, b, api.Inside, tcp(net+2, 1, out, lo+1, api.SYN), api.Unasked)
	drops(t, b, api.Inside, tcp(net+2, 1, out, lo, api.SYN), api.NoPort)
	drops(t, b, api.Inside, tcp(net+2, 1, out, lo, api.ACK), api.Unasked)
	// The same address with a port that is somebody's is no reason by itself.
	calls(t, b, net+1, 1, far, lo, api.SYN, lo)
	for k := range 8 {
		calls(t, b, net+1, 1, far+1+k, 80, api.SYN, lo)
	}
	drops(t, b, api.Inside, tcp(net+2, 1, far, 80, api.ACK), api.Unasked)
	drops(t, b, api.Inside, tcp(net+2, 1, far, 80, api.SYN), api.NoSession)
	drops(t, b, api.Inside, tcp(net+2, 1, out, lo+1, api.SYN), api.Unasked)
	drops(t, b, api.Inside, tcp(net+2, 1, out, lo, api.SYN), api.NoSession)
}

func TestP7ToANeighbour(t *testing.T) {
	b := box(t, 4)
	asks(t, b, net+1, 9, far, 53, lo)
	asks(t, b, net+2, 8, far, 53, lo+1)
	tick(t, b, 5)
	drops(t, b, api.Inside, udp(net+1, 9, out, lo+2, "x"), api.Unasked)
	drops(t, b, api.Inside, tcp(net+1, 9, out, lo+1, api.SYN), api.Unasked)
	drops(t, b, api.Inside, udp(net+1, 9, out, lo+1, "x"), api.Filtered)
	shows(t, b, "time 5",
		session(17, net+1, 9, lo, far, 53, 0, 30),
		session(17, net+1, 9, lo, out, lo+1, 0, 35),
		session(17, net+2, 8, lo+1, far, 53, 0, 30))
	tick(t, b, 2)
	// Filtered again: the sender's session rests anew all the same.
	drops(t, b, api.Inside, udp(net+1, 9, out, lo+1, "x"), api.Filtered)
	tick(t, b, 3)
	sends(t, b, api.Inside, udp(net+2, 8, out, lo, "y"), api.Inside, udp(out, lo+1, net+1, 9, "y"))
	shows(t, b, "time 10",
		session(17, net+1, 9, lo, far, 53, 0, 30),
		session(17, net+1, 9, lo, out, lo+1, 0, 40),
		session(17, net+2, 8, lo+1, far, 53, 0, 30),
		session(17, net+2, 8, lo+1, out, lo, 0, 40))
	sends(t, b, api.Inside, udp(net+1, 9, out, lo+1, "x"), api.Inside, udp(out, lo, net+2, 8, "x"))
	if b.Count(api.Filtered) != 2 || b.Count(api.Unasked) != 2 {
		t.Errorf("counts %v", counts(b))
	}
}

// A newcomer to a neighbour is lent a port, which it keeps though it was filtered.
func TestP7NewcomerToANeighbour(t *testing.T) {
	b := box(t, 2)
	asks(t, b, net+1, 9, far, 53, lo)
	drops(t, b, api.Inside, udp(net+2, 8, out, lo, "x"), api.Filtered)
	asks(t, b, net+2, 8, far, 53, lo+1)
	drops(t, b, api.Inside, udp(net+3, 8, out, lo, "x"), api.NoPort)
	// The neighbour must have asked just that port.
	drops(t, b, api.Inside, udp(net+1, 9, out, lo, "x").turnedTo(9), api.Unasked)
	asks(t, b, net+1, 9, out+1, lo+1, lo)
	drops(t, b, api.Inside, udp(net+2, 8, out, lo, "x"), api.Filtered)
	asks(t, b, net+1, 9, far, lo+1, lo)
	drops(t, b, api.Inside, udp(net+2, 8, out, lo, "x"), api.Filtered)
	sends(t, b, api.Inside, udp(net+1, 9, out, lo+1, "x"), api.Inside, udp(out, lo, net+2, 8, "x"))
	sends(t, b, api.Inside, udp(net+2, 8, out, lo, "x"), api.Inside, udp(out, lo+1, net+1, 9, "x"))
}

// turnedTo is the packet to another port.
func (p packet) turnedTo(port int) packet {
	p.body = put(p.body, 2, word(port))
	return p.sealed()
}

// Whoever asks its own outer end has asked what comes.
func TestP7ToItself(t *testing.T) {
	b := box(t, 2)
	drops(t, b, api.Inside, udp(net+1, 9, out, lo, "x"), api.Unasked)
	asks(t, b, net+1, 9, far, 53, lo)
	sends(t, b, api.Inside, udp(net+1, 9, out, lo, "x"), api.Inside, udp(out, lo, net+1, 9, "x"))
	shows(t, b, "time 0",
		session(17, net+1, 9, lo, far, 53, 0, 30),
		session(17, net+1, 9, lo, out, lo, 0, 30))
	calls(t, b, net+1, 9, far, 80, api.SYN, lo)
	talks := func(flags, stands, deadline int) {
		t.Helper()
		sends(t, b, api.Inside, tcp(net+1, 9, out, lo, flags), api.Inside, tcp(out, lo, net+1, 9, flags))
		shows(t, b, "time 0",
			session(6, net+1, 9, lo, far, 80, 1, 8),
			session(6, net+1, 9, lo, out, lo, stands, deadline),
			session(17, net+1, 9, lo, far, 53, 0, 30),
			session(17, net+1, 9, lo, out, lo, 0, 30))
	}
	// Each message comes from inside first, and then as if from outside.
	talks(api.SYN, 1, 8)
	talks(api.SYN|api.ACK, 1, 8)
	talks(api.ACK, 2, 60)
	talks(api.FIN, 3, 5)
	talks(api.SYN, 1, 8)
	talks(api.ACK, 1, 8)
	talks(api.RST, 3, 5)
}

// The port of a neighbour that is gone is nobody's, though there is a session to it.
func TestP7NeighbourIsGone(t *testing.T) {
	b := box(t, 2)
	asks(t, b, net+1, 9, far, 53, lo)
	asks(t, b, net+2, 8, far, 53, lo+1)
	tick(t, b, 20)
	asks(t, b, net+1, 9, far, 53, lo)
	drops(t, b, api.Inside, udp(net+1, 9, out, lo+1, "x"), api.Filtered)
	tick(t, b, 10)
	drops(t, b, api.Inside, udp(net+1, 9, out, lo+1, "x"), api.Unasked)
	shows(t, b, "time 30",
		session(17, net+1, 9, lo, far, 53, 0, 50),
		session(17, net+1, 9, lo, out, lo+1, 0, 50))
	// Another inner end gets the port, and with it what goes there.
	sends(t, b, api.Inside, udp(net+3, 7, out, lo, "x"), api.Inside, udp(out, lo+1, net+1, 9, "x"))
	sends(t, b, api.Inside, udp(net+1, 9, out, lo+1, "x"), api.Inside, udp(out, lo, net+3, 7, "x"))
}

func TestP7NeighboursByTCP(t *testing.T) {
	b := box(t, 2)
	calls(t, b, net+1, 9, far, 80, api.SYN, lo)
	calls(t, b, net+2, 8, far, 80, api.SYN, lo+1)
	talks := func(first bool, flags, stands1, deadline1, stands2, deadline2 int) {
		t.Helper()
		if first {
			sends(t, b, api.Inside, tcp(net+1, 9, out, lo+1, flags), api.Inside, tcp(out, lo, net+2, 8, flags))
		} else {
			sends(t, b, api.Inside, tcp(net+2, 8, out, lo, flags), api.Inside, tcp(out, lo+1, net+1, 9, flags))
		}
		shows(t, b, "time 0",
			session(6, net+1, 9, lo, far, 80, 1, 8),
			session(6, net+1, 9, lo, out, lo+1, stands1, deadline1),
			session(6, net+2, 8, lo+1, far, 80, 1, 8),
			session(6, net+2, 8, lo+1, out, lo, stands2, deadline2))
	}
	drops(t, b, api.Inside, tcp(net+1, 9, out, lo+1, api.SYN), api.Filtered)
	drops(t, b, api.Inside, tcp(net+2, 8, out, lo, api.ACK), api.Unasked)
	talks(false, api.SYN, 1, 8, 1, 8)
	talks(false, api.SYN|api.ACK, 1, 8, 1, 8)
	talks(true, api.SYN|api.ACK, 2, 60, 1, 8)
	talks(false, api.ACK, 2, 60, 2, 60)
	talks(false, api.FIN, 2, 60, 2, 60)
	talks(true, api.FIN, 3, 5, 3, 5)
	talks(true, api.SYN, 1, 8, 3, 5)
}

func TestP8(t *testing.T) {
	b := box(t, 3)
	asks(t, b, net+1, 9, far, 53, lo)
	asks(t, b, net+2, 9, far+1, 53, lo+1)
	asks(t, b, net+1, 9, far+2, 54, lo)
	calls(t, b, net+3, 9, far+3, 80, api.SYN, lo)
	sends(t, b, api.Outside, udp(far, 53, out, lo, "a"), api.Inside, udp(far, 53, net+1, 9, "a"))
	sends(t, b, api.Outside, udp(far+1, 53, out, lo+1, "a"), api.Inside, udp(far+1, 53, net+2, 9, "a"))
	sends(t, b, api.Outside, udp(far+2, 54, out, lo, "a"), api.Inside, udp(far+2, 54, net+1, 9, "a"))
	for _, p := range []packet{
		udp(far, 54, out, lo, "a"), udp(far+1, 53, out, lo, "a"), udp(far, 53, out, lo+1, "a"),
		udp(far, 53, out, lo+2, "a"), udp(far, 53, out, 9, "a"), udp(far, 53, out, lo-1, "a"),
		udp(far+3, 80, out, lo, "a"),
		tcp(far, 53, out, lo, api.ACK), tcp(far, 53, out, lo, api.SYN), tcp(far+1, 53, out, lo+1, api.ACK),
		tcp(far+3, 81, out, lo, api.ACK), tcp(far+3, 80, out, lo+1, api.ACK),
	} {
		drops(t, b, api.Outside, p, api.Unasked)
	}
	sends(t, b, api.Outside, tcp(far+3, 80, out, lo, api.ACK), api.Inside, tcp(far+3, 80, net+3, 9, api.ACK))
}

func TestP8RestsAnew(t *testing.T) {
	b := box(t, 1)
	asks(t, b, net+1, 9, far, 53, lo)
	asks(t, b, net+1, 9, far, 54, lo)
	tick(t, b, 29)
	sends(t, b, api.Outside, udp(far, 53, out, lo, "a"), api.Inside, udp(far, 53, net+1, 9, "a"))
	shows(t, b, "time 29", session(17, net+1, 9, lo, far, 53, 0, 59), session(17, net+1, 9, lo, far, 54, 0, 30))
	tick(t, b, 1)
	shows(t, b, "time 30", session(17, net+1, 9, lo, far, 53, 0, 59))
}
