package wire

import "gateway/api"

// The kinds of ICMP messages that are passed on.
const (
	Echo        = 8
	Reply       = 0
	unreachable = 3
	timeout     = 11
	badHeader   = 12
)

// Where the parts of ICMP messages lie.
const (
	kindAt   = 0
	codeAt   = 1
	numberAt = 4
	aboutAt  = 8
)

// An error tells of the packet that it is about at least the header and these bytes.
const toldBytes = 8

// Kind is an ICMP message's kind; of others it means nothing.
func (d Datagram) Kind() int {
	return Byte(d.Message, kindAt)
}

// IsEcho tells whether the datagram is an echo.
func (d Datagram) IsEcho() bool {
	return d.Proto == api.ICMP && d.Kind() == Echo && Byte(d.Message, codeAt) == 0
}

// IsReply tells whether the datagram is the reply to an echo.
func (d Datagram) IsReply() bool {
	return d.Proto == api.ICMP && d.Kind() == Reply && Byte(d.Message, codeAt) == 0
}

// IsError tells whether the datagram is an ICMP error.
func (d Datagram) IsError() bool {
	if d.Proto != api.ICMP {
		return false
	}
	kind := d.Kind()
	return kind == unreachable || kind == timeout || kind == badHeader
}

// numbered is a datagram of ICMP with its number as the port of the end that it is of.
func (d Datagram) numbered() Datagram {
	switch d.Kind() {
	case Echo:
		d.From.Port = Word(d.Message, numberAt)
	case Reply:
		d.To.Port = Word(d.Message, numberAt)
	}
	return d
}

// number is which of the ends' ports a message of ICMP has as its number.
func (d Datagram) number(from, to End) int {
	if d.Kind() == Echo {
		return from.Port
	}
	return to.Port
}

// About reads the packet that an ICMP error is about, and tells whether there is one in form. Of its message there may be the beginning alone.
func (d Datagram) About() (Datagram, bool) {
	p := d.told()
	if !p.tellable() {
		return Datagram{}, false
	}
	return Whole([]Packet{p}), true
}

func (d Datagram) told() Packet {
	if len(d.Message) < aboutAt {
		return Packet{}
	}
	return read(d.Message[aboutAt:])
}

// tellable tells whether an error may be about the packet. It was cut, and has been on its way: its length and its time to live say nothing.
func (p Packet) tellable() bool {
	if len(p.Body) < toldBytes || Byte(p.header, 0) != firstByte || Sum(p.header) != maxWord {
		return false
	}
	if p.Proto != api.ICMP && p.Proto != api.TCP && p.Proto != api.UDP {
		return false
	}
	return Word(p.header, placeAt)&place == 0
}

// Retold makes the error that tells the same from one address to another, about the packet as it went between other ends. It is for errors of which About finds the packet.
func (d Datagram) Retold(src, dst int, from, to End) Datagram {
	if len(d.Message) < aboutAt+headerBytes {
		return d
	}
	p := d.told()
	whole := Whole([]Packet{p})
	about := whole.shifted(from, to)
	d.From.Address = src
	d.To.Address = dst
	d.Message = d.Message[:aboutAt] + addressed(p.header, from.Address, to.Address) + about.Message
	return d.sealed()
}

// shifted is a datagram between other ends whose message may be cut: so the checksum is changed by what changes, and where it was cut off there is none to change.
func (d Datagram) shifted(from, to End) Datagram {
	other := Datagram{Proto: d.Proto, From: from, To: to, Message: d.ported(from, to)}
	if !d.hasSum() {
		return other
	}
	at := d.sumAt()
	sum := maxWord - Word(d.Message, at) + d.change(other)
	other.Message = PutWord(other.Message, at, d.checksum(Fold(sum)))
	return other
}

// change is, of each word that another datagram has in place of this one's, 65,535 less the old one, and the new one.
func (d Datagram) change(o Datagram) int {
	if d.Proto == api.ICMP {
		return maxWord - Word(d.Message, numberAt) + Word(o.Message, numberAt)
	}
	return d.From.change(o.From) + d.To.change(o.To)
}

// change counts the address's two words and the port.
func (e End) change(o End) int {
	return 3*maxWord - e.addressWords() - e.Port + o.addressWords() + o.Port
}
