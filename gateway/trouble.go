package gateway

import (
	"gateway/api"
	"gateway/wire"
)

// trouble passes an ICMP error on to whoever sent the packet that it is about.
func (b *Box) trouble(side int, d wire.Datagram) way {
	about, formed := d.About()
	if d.InPieces || !formed {
		return way{what: api.BadBody}
	}
	if side == api.Inside {
		return b.troubleFromInside(d, about)
	}
	return b.troubleFromOutside(d, about)
}

func (b *Box) troubleFromOutside(d, about wire.Datagram) way {
	if about.Proto == api.ICMP && about.Kind() != wire.Echo {
		return way{what: api.Unasked}
	}
	inner, known := b.table.Inner(about.Proto, about.From.Port)
	if !known || about.From.Address != b.config.Out || !b.table.Has(about.Proto, inner, about.To) {
		return way{what: api.Unasked}
	}
	told := d.Retold(d.From.Address, inner.Address, inner, about.To)
	return way{what: api.Sent, side: api.Inside, datagram: told}
}

func (b *Box) troubleFromInside(d, about wire.Datagram) way {
	if about.Proto == api.ICMP && about.Kind() != wire.Reply {
		return way{what: api.Unasked}
	}
	if d.To.Address == b.config.Out || !b.table.Has(about.Proto, about.To, about.From) {
		return way{what: api.Unasked}
	}
	port := b.table.Outer(about.Proto, about.To)
	outer := wire.End{Address: b.config.Out, Port: port}
	told := d.Retold(b.config.Out, d.To.Address, about.From, outer)
	return way{what: api.Sent, side: api.Outside, datagram: told}
}
