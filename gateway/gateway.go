// Package gateway: a box between an inner net and the outside: see DOC.md.
package gateway

import (
	"strconv"

	"gateway/api"
	"gateway/pieces"
	"gateway/sessions"
	"gateway/wire"
)

// Box is a box with what it knows.
type Box struct {
	config  api.Config
	time    int
	counts  [api.Reasons]int
	table   sessions.Table
	waiting pieces.Store
}

// New makes a box that knows nobody (P3).
func New(c api.Config) (*Box, api.Errno) {
	if !valid(c) {
		return nil, api.ErrArg
	}
	return &Box{config: c}, api.OK
}

// Receive takes a packet at a side: what becomes of it, and what goes out (P4 to P9, P13 to P15).
func (b *Box) Receive(side int, raw string) (int, []api.Frame) {
	if b == nil {
		return api.BadSide, nil
	}
	what, frames := b.handle(side, raw)
	if what >= 0 && what < api.Reasons {
		b.counts[what]++
	}
	return what, frames
}

// Tick lets time go by (P10).
func (b *Box) Tick(n int) api.Errno {
	if b == nil || n < 0 || n > api.MaxTick {
		return api.ErrArg
	}
	b.time += n
	b.table.Expire(b.time)
	b.waiting.Expire(b.time)
	return api.OK
}

// Count tells how often that became of a packet (P12).
func (b *Box) Count(what int) int {
	if b == nil || what < 0 || what >= api.Reasons {
		return 0
	}
	return b.counts[what]
}

// Show tells what the box knows (P12, P16).
func (b *Box) Show() string {
	if b == nil {
		return ""
	}
	text := "time " + strconv.Itoa(b.time) + "\n"
	text += b.table.Show()
	text += b.waiting.Show()
	return text
}

// Held tells how many bytes are held, of all and of a source (P16).
func (b *Box) Held(src int) (int, int) {
	if b == nil {
		return 0, 0
	}
	return b.waiting.Held(src)
}

func (b *Box) handle(side int, raw string) (int, []api.Frame) {
	if side != api.Inside && side != api.Outside {
		return api.BadSide, nil
	}
	p, fault := wire.Parse(raw)
	if fault != api.Sent {
		return fault, nil
	}
	if !b.mayPass(side, p.Src, p.Dst) {
		return api.BadAddr, nil
	}
	if p.Proto != api.ICMP && p.Proto != api.TCP && p.Proto != api.UDP {
		return api.BadProto, nil
	}
	if !p.Piece() {
		return b.pass(side, []wire.Packet{p})
	}
	what, packets := b.waiting.Take(side, p, b.config, b.time)
	if what != api.Sent {
		return what, nil
	}
	return b.pass(side, packets)
}

// pass passes on the datagram that packets are together, or drops it.
func (b *Box) pass(side int, packets []wire.Packet) (int, []api.Frame) {
	came := wire.Whole(packets)
	w := b.route(side, came)
	if w.what != api.Sent {
		return w.what, nil
	}
	frames := []api.Frame{}
	for _, raw := range w.datagram.Onward(packets) {
		frames = append(frames, api.Frame{Side: w.side, Raw: raw})
	}
	return api.Sent, frames
}
