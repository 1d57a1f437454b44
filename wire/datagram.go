package wire

import "gateway/api"

// Where the parts of messages lie.
const (
	fromAt      = 0
	toAt        = 2
	udpLengthAt = 4
	udpSumAt    = 6
	tcpSizeAt   = 12
	tcpFlagsAt  = 13
	tcpSumAt    = 16
	icmpSumAt   = 2
)

// The fewest bytes that messages have.
const (
	udpBytes  = 8
	tcpBytes  = 20
	icmpBytes = 8
)

// End is an address and a port.
type End struct {
	Address, Port int
}

// Datagram is a whole datagram: the ends it goes between, its message, and whether that came in pieces. Of ICMP whoever sends an echo or gets a reply has its number as the port; other ports are 0.
type Datagram struct {
	Proto    int
	From, To End
	Message  string
	InPieces bool
}

// Whole reads the datagram that packets are together, all of its pieces by where they lie or one packet that is no piece.
func Whole(packets []Packet) Datagram {
	d := Datagram{InPieces: len(packets) > 1}
	for _, p := range packets {
		d.Proto = p.Proto
		d.From.Address = p.Src
		d.To.Address = p.Dst
		d.Message += p.Body
	}
	if d.Proto == api.ICMP {
		return d.numbered()
	}
	d.From.Port = Word(d.Message, fromAt)
	d.To.Port = Word(d.Message, toAt)
	return d
}

// Onward makes what goes out for the packets that the datagram came in: each has the part of the message that lies where its body lay.
func (d Datagram) Onward(packets []Packet) []string {
	list := []string{}
	rest := d.Message
	for _, p := range packets {
		size := len(p.Body)
		if size > len(rest) {
			size = len(rest)
		}
		list = append(list, p.onward(d.From.Address, d.To.Address, rest[:size]))
		rest = rest[size:]
	}
	return list
}

// Fault is what speaks against the message, or api.Sent if nothing does.
func (d Datagram) Fault() int {
	if !d.formed() {
		return api.BadBody
	}
	if d.hasSum() && d.sum() != maxWord {
		return api.BadSum
	}
	return api.Sent
}

func (d Datagram) formed() bool {
	size := len(d.Message)
	if d.Proto == api.ICMP {
		return size >= icmpBytes
	}
	if d.From.Port == 0 || d.To.Port == 0 {
		return false
	}
	if d.Proto == api.UDP {
		return size >= udpBytes && Word(d.Message, udpLengthAt) == size
	}
	header := Byte(d.Message, tcpSizeAt) / 16 * 4
	return header >= tcpBytes && header <= size
}

// Flags are the flags of a TCP message; of others they mean nothing.
func (d Datagram) Flags() int {
	return Byte(d.Message, tcpFlagsAt)
}

// Between makes the datagram that carries the same between other ends. (An ICMP error: see Retold.)
func (d Datagram) Between(from, to End) Datagram {
	d.Message = d.ported(from, to)
	d.From = from
	d.To = to
	return d.sealed()
}

// ported is the message with the ports of other ends.
func (d Datagram) ported(from, to End) string {
	if d.Proto == api.ICMP {
		return PutWord(d.Message, numberAt, d.number(from, to))
	}
	message := PutWord(d.Message, fromAt, from.Port)
	return PutWord(message, toAt, to.Port)
}

func (d Datagram) sealed() Datagram {
	if !d.hasSum() {
		return d
	}
	at := d.sumAt()
	d.Message = PutWord(d.Message, at, 0)
	d.Message = PutWord(d.Message, at, d.checksum(d.sum()))
	return d
}

// checksum is what makes a checksum of the folded sum of the other words.
func (d Datagram) checksum(sum int) int {
	if sum == maxWord && d.Proto == api.UDP {
		// 0 would say that there is none.
		return maxWord
	}
	return maxWord - sum
}

func (d Datagram) hasSum() bool {
	return d.Proto != api.UDP || Word(d.Message, udpSumAt) != 0
}

func (d Datagram) sumAt() int {
	switch d.Proto {
	case api.TCP:
		return tcpSumAt
	case api.UDP:
		return udpSumAt
	}
	return icmpSumAt
}

// sum is the folded sum of all words that the message's checksum is of.
func (d Datagram) sum() int {
	message := Sum(d.Message)
	if d.Proto == api.ICMP {
		return message
	}
	addresses := d.From.addressWords() + d.To.addressWords()
	return Fold(message + addresses + d.Proto + len(d.Message))
}

// addressWords is the sum of the address's two words.
func (e End) addressWords() int {
	return e.Address>>16 + e.Address&maxWord
}
