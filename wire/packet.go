package wire

import "gateway/api"

const headerBytes = 20

// Version 4, and a header of five words.
const firstByte = 69

// Where the parts of a header lie.
const (
	lengthAt = 2
	nameAt   = 4
	placeAt  = 6
	livesAt  = 8
	protoAt  = 9
	sumAt    = 10
	srcAt    = 12
	dstAt    = 16
)

// The parts of the word that tells where the body lies.
const (
	mustBeZero = 1 << 15
	more       = 1 << 13
	place      = 1<<13 - 1
)

// The units in which it tells that.
const placeUnit = 8

// The time to live is the high byte of its word.
const oneLife = 1 << 8

// Packet is a packet whose header is right.
type Packet struct {
	header   string // as it came: what goes out is made of it
	Src, Dst int
	Proto    int
	Body     string
}

// Parse reads a packet. Beside it stands what speaks against it, or api.Sent if nothing does.
func Parse(raw string) (Packet, int) {
	if len(raw) <= headerBytes || len(raw) > api.MaxPacket {
		return Packet{}, api.Malformed
	}
	p := read(raw)
	fault := p.fault()
	if fault != api.Sent {
		return Packet{}, fault
	}
	return p, api.Sent
}

// read takes a header and what lies behind it, whether they are right or not.
func read(raw string) Packet {
	if len(raw) < headerBytes {
		return Packet{}
	}
	return Packet{
		header: raw[:headerBytes],
		Src:    Address(raw, srcAt),
		Dst:    Address(raw, dstAt),
		Proto:  Byte(raw, protoAt),
		Body:   raw[headerBytes:],
	}
}

func (p Packet) fault() int {
	if Byte(p.header, 0) != firstByte || Word(p.header, lengthAt) != headerBytes+len(p.Body) {
		return api.Malformed
	}
	if Word(p.header, placeAt)&mustBeZero != 0 {
		return api.Malformed
	}
	if Sum(p.header) != maxWord {
		return api.BadSum
	}
	if p.More() && len(p.Body)%placeUnit != 0 {
		return api.Malformed
	}
	if Byte(p.header, livesAt) <= 1 {
		return api.Expired
	}
	return api.Sent
}

// Number is the number by which the pieces of a datagram are known.
func (p Packet) Number() int {
	return Word(p.header, nameAt)
}

// More tells whether the datagram goes on behind this packet.
func (p Packet) More() bool {
	return Word(p.header, placeAt)&more != 0
}

// Place is where in the datagram the body begins, in bytes.
func (p Packet) Place() int {
	units := Word(p.header, placeAt) & place
	return units * placeUnit
}

// End is where in the datagram the body ends, in bytes.
func (p Packet) End() int {
	return p.Place() + len(p.Body)
}

// Piece tells whether the packet is only a piece of a datagram.
func (p Packet) Piece() bool {
	return p.More() || p.Place() != 0
}

// onward makes the packet that goes out for this one, with other addresses and another body of the same length.
func (p Packet) onward(src, dst int, body string) string {
	header := PutWord(p.header, livesAt, Word(p.header, livesAt)-oneLife)
	return addressed(header, src, dst) + body
}

// addressed makes the header with other addresses, and the checksum that it then has.
func addressed(header string, src, dst int) string {
	header = PutAddress(header, srcAt, src)
	header = PutAddress(header, dstAt, dst)
	header = PutWord(header, sumAt, 0)
	return PutWord(header, sumAt, maxWord-Sum(header))
}
