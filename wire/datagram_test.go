package wire

import (
	"testing"

	"gateway/api"
)

// A message that is too short for the packets fills those that it can; what is too much of it goes nowhere.
func TestOnwardAnyLength(t *testing.T) {
	packets := []Packet{read("01234567890123456789abcd"), read("01234567890123456789efgh"), {}}
	for n := range 12 {
		d := Datagram{Proto: api.UDP, Message: "ABCDEFGHIJKL"[:n]}
		list := d.Onward(packets)
		if len(list) != 3 {
			t.Fatalf("%d packets go out", len(list))
		}
		body := ""
		for _, raw := range list {
			if len(raw) > headerBytes {
				body += raw[headerBytes:]
			}
		}
		if want := "ABCDEFGH"[:min(n, 8)]; body != want {
			t.Errorf("%d bytes: %q, want %q", n, body, want)
		}
	}
	if list := (Datagram{}).Onward(nil); len(list) != 0 {
		t.Errorf("no packets: %q", list)
	}
}

func TestWhole(t *testing.T) {
	d := Whole(nil)
	if d != (Datagram{}) {
		t.Errorf("nothing: %+v", d)
	}
	one := Whole([]Packet{{Src: 1, Dst: 2, Proto: api.UDP, Body: "\x00\x09\x00\x35"}})
	if one.InPieces || one.From != (End{1, 9}) || one.To != (End{2, 53}) {
		t.Errorf("one packet: %+v", one)
	}
	two := Whole([]Packet{{Src: 1, Dst: 2, Proto: api.UDP, Body: "\x00\x09\x00"}, {Src: 1, Dst: 2, Proto: api.UDP, Body: "\x35"}})
	one.InPieces = true
	if two != one {
		t.Errorf("two packets: %+v, want %+v", two, one)
	}
}
