package gateway

import (
	"gateway/api"
	"gateway/wire"
)

// Of these flags just SYN begins a TCP session.
const beginFlags = api.SYN | api.ACK | api.RST | api.FIN

// way is what becomes of a whole datagram and, if that is api.Sent, at which side it goes out, and how.
type way struct {
	what     int
	side     int
	datagram wire.Datagram
}

func (b *Box) route(side int, d wire.Datagram) way {
	fault := d.Fault()
	if fault != api.Sent {
		return way{what: fault}
	}
	if d.IsError() {
		return b.trouble(side, d)
	}
	if d.Proto == api.ICMP {
		fault = b.echoFault(side, d)
	}
	if fault != api.Sent {
		return way{what: fault}
	}
	if side == api.Inside {
		return b.fromInside(d)
	}
	return b.fromOutside(d)
}

// echoFault is what speaks against a message of ICMP that is no error, or api.Sent if it may go by a session: echoes alone go out, and replies alone come in.
func (b *Box) echoFault(side int, d wire.Datagram) int {
	echo := d.IsEcho()
	if !echo && !d.IsReply() {
		return api.BadBody
	}
	if echo != (side == api.Inside) {
		return api.Unasked
	}
	if echo && d.To.Address == b.config.Out {
		// The box itself answers no echo, and no neighbour can be named by one.
		return api.Unasked
	}
	return api.Sent
}

func (b *Box) fromInside(d wire.Datagram) way {
	turned := d.To.Address == b.config.Out
	neighbour, known := b.table.Inner(d.Proto, d.To.Port)
	if turned && !known {
		return way{what: api.Unasked}
	}
	what := b.ask(d)
	if what != api.Sent {
		return way{what: what}
	}
	flags := d.Flags()
	b.table.Pass(d.Proto, d.From, d.To, api.Inside, flags, b.time)
	port := b.table.Outer(d.Proto, d.From)
	from := wire.End{Address: b.config.Out, Port: port}
	if turned {
		return b.turn(d, from, neighbour)
	}
	return way{what: api.Sent, side: api.Outside, datagram: d.Between(from, d.To)}
}

// ask sees to it that the datagram's source has a session to its destination: api.Sent, or why it can't.
func (b *Box) ask(d wire.Datagram) int {
	if b.table.Has(d.Proto, d.From, d.To) {
		return api.Sent
	}
	if d.Proto == api.TCP && d.Flags()&beginFlags != api.SYN {
		return api.Unasked
	}
	if b.table.Full() {
		return api.NoSession
	}
	port := b.table.Outer(d.Proto, d.From)
	if port == 0 {
		port = b.table.Free(d.Proto, b.config.Lo, b.config.Hi)
	}
	if port == 0 {
		return api.NoPort
	}
	b.table.Begin(d.Proto, d.From, d.To, port)
	return api.Sent
}

// turn brings a datagram from inside, which goes by the name of its sender's outer end, to the neighbour that it is for.
func (b *Box) turn(d wire.Datagram, from, neighbour wire.End) way {
	if !b.table.Has(d.Proto, neighbour, from) {
		return way{what: api.Filtered}
	}
	return b.deliver(d, from, neighbour)
}

func (b *Box) fromOutside(d wire.Datagram) way {
	to, known := b.table.Inner(d.Proto, d.To.Port)
	if !known || !b.table.Has(d.Proto, to, d.From) {
		return way{what: api.Unasked}
	}
	return b.deliver(d, d.From, to)
}

// deliver brings a datagram to an inner end that has a session to where it comes from.
func (b *Box) deliver(d wire.Datagram, from, to wire.End) way {
	flags := d.Flags()
	b.table.Pass(d.Proto, to, from, api.Outside, flags, b.time)
	return way{what: api.Sent, side: api.Inside, datagram: d.Between(from, to)}
}
