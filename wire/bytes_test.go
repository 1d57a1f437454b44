package wire

import (
	"math"
	"testing"
)

var places = []int{math.MinInt, -3, -2, -1, 3, 4, 5, math.MaxInt - 1, math.MaxInt}

func TestBeyondTheEnds(t *testing.T) {
	for _, at := range places {
		if at != 3 && Byte("abcd", at) != 0 {
			t.Errorf("Byte at %d", at)
		}
		if s := PutWord("abcd", at, 0x3031); s != "abcd" {
			t.Errorf("PutWord at %d: %q", at, s)
		}
		Address("abcd", at)
		PutAddress("abcd", at, 1)
	}
	if Word("abcd", 3) != 'd'<<8 || Word("abcd", -1) != 'a' {
		t.Error("Word over an end")
	}
}

func TestPut(t *testing.T) {
	if s := PutWord("abcd", 2, 0x3031); s != "ab01" {
		t.Errorf("PutWord: %q", s)
	}
	if s := PutWord("abcd", 0, 0x13031); s != "01cd" {
		t.Errorf("PutWord: %q", s)
	}
	if s := PutAddress("abcdef", 1, 0x30313233); s != "a0123f" {
		t.Errorf("PutAddress: %q", s)
	}
	if n := Address("abcdef", 1); n != 0x62636465 {
		t.Errorf("Address: %x", n)
	}
}

func TestFold(t *testing.T) {
	for _, c := range [][2]int{{0, 0}, {65535, 65535}, {65536, 1}, {0x1ffff, 1}, {0x1fffe, 65535}, {0x2fffe, 1}, {math.MaxInt, 0x7fff}, {-1, -1}} {
		if got := Fold(c[0]); got != c[1] {
			t.Errorf("Fold(%x) = %x, want %x", c[0], got, c[1])
		}
	}
}

func TestSum(t *testing.T) {
	for s, want := range map[string]int{"": 0, "\x01": 256, "\x01\x02": 258, "\xff\xff\x00\x01": 1, "\xff\xff\x01": 256} {
		if got := Sum(s); got != want {
			t.Errorf("Sum(%x) = %x, want %x", s, got, want)
		}
	}
}
