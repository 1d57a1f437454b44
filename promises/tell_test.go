package promises

import (
	"encoding/hex"
	"strconv"
	"strings"
	"testing"

	"gateway/api"
)

func itoa(n int) string { return strconv.Itoa(n) }

func TestP12Count(t *testing.T) {
	b := box(t, 1)
	good := udp(net+1, 9, far, 53, "x")
	for range 3 {
		asks(t, b, net+1, 9, far, 53, lo)
	}
	for range 2 {
		drops(t, b, api.Inside, udp(net+2, 9, far, 53, "x"), api.NoPort)
	}
	drops(t, b, api.Outside, good, api.BadAddr)
	receive(t, b, 5, good.raw(), api.BadSide, nil)
	receive(t, b, api.Inside, "", api.Malformed, nil)
	tick(t, b, 100)
	want := [api.Reasons]int{}
	want[api.Sent], want[api.NoPort], want[api.BadAddr], want[api.BadSide], want[api.Malformed] = 3, 2, 1, 1, 1
	if counts(b) != want {
		t.Errorf("counts %v, want %v", counts(b), want)
	}
	for _, n := range oddNumbers {
		if n >= 0 && n < api.Reasons {
			continue
		}
		if got := b.Count(n); got != 0 {
			t.Errorf("Count(%d) = %d", n, got)
		}
	}
}

// Sessions are shown in their order, in whatever order they began, and numbers are compared as numbers, not as texts.
func TestP12Order(t *testing.T) {
	ends := [][5]int{
		{6, net + 9, 7, far, 80}, {6, net + 9, 7, far, 443}, {6, net + 100, 1, far, 5},
		{17, net + 9, 7, 9, 53}, {17, net + 9, 7, far, 9}, {17, net + 9, 7, far, 1000}, {17, net + 9, 7, 0xffffffff, 1},
		{17, net + 9, 60000, far, 5}, {17, net + 100, 3, far, 5}, {17, net + 100, 22, far, 4},
	}
	for _, order := range [][]int{{0, 1, 2, 3, 4, 5, 6, 7, 8, 9}, {9, 8, 7, 6, 5, 4, 3, 2, 1, 0}, {5, 0, 9, 2, 7, 4, 1, 8, 3, 6}} {
		b := box(t, 12)
		ports := map[[3]int]int{}
		lent := map[int]int{}
		for _, i := range order {
			e := ends[i]
			who := [3]int(e[:3])
			if ports[who] == 0 {
				ports[who] = lo + lent[e[0]]
				lent[e[0]]++
			}
			if e[0] == api.TCP {
				calls(t, b, e[1], e[2], e[3], e[4], api.SYN, ports[who])
			} else {
				asks(t, b, e[1], e[2], e[3], e[4], ports[who])
			}
		}
		want := []string{"time 0"}
		for _, e := range ends {
			stands, deadline := 0, 30
			if e[0] == api.TCP {
				stands, deadline = 1, 8
			}
			want = append(want, session(e[0], e[1], e[2], ports[[3]int(e[:3])], e[3], e[4], stands, deadline))
		}
		shows(t, b, want...)
	}
}

func TestP12GreatNumbers(t *testing.T) {
	c := config(1)
	c.Net, c.Bits, c.Lo, c.Hi, c.Out = 0xff000000, 8, 65535, 65535, 1
	b := boxOf(t, c)
	p := udp(0xffffffff, 65535, 0xfeffffff, 65535, "x")
	q := udp(1, 65535, 0xfeffffff, 65535, "x")
	sends(t, b, api.Inside, p, api.Outside, q)
	shows(t, b, "time 0", "session 17 4294967295 65535 65535 4278190079 65535 0 30")
}

func TestExamples(t *testing.T) {
	b := box(t, 4)
	for i, c := range []struct {
		side int
		raw  string
		what int
		out  int
		goes string
	}{
		{0, "4500001f00070000091197b70a0000010808080803e80035000b153761736b", api.Sent, 1, "4500001f00070000081166b2cb0071050808080813880035000bd39161736b"},
		{1, "4500002200070000091165af08080808cb00710500351388000e65a7616e73776572", api.Sent, 0, "4500002200070000081198b4080808080a000001003503e8000ea74c616e73776572"},
		{1, "4500002200070000091165af08080808cb00710500361388000e65a6616e73776572", api.Unasked, 0, ""},
		{0, "4500002800080000090697b70a0000020808080807d000500000000500000006501011117c870000", api.Unasked, 0, ""},
		{0, "4500002800080000090697b70a0000020808080807d000500000000500000006500211117c950000", api.Sent, 1, "4500002800080000080666b3cb00710508080808138800500000000500000006500211113ed90000"},
		{1, "4500002800080000090665b308080808cb007105005013880000000500000006501211113ec90000", api.Sent, 0, "4500002800080000080698b7080808080a000002005007d00000000500000006501211117c850000"},
		{0, "4500002800080000090697b70a0000020808080807d000500000000500000006501011117c870000", api.Sent, 1, "4500002800080000080666b3cb00710508080808138800500000000500000006501011113ecb0000"},
		{0, "4500001d0007000009116bc20a000002cb0071050007138800092e4578", api.Filtered, 0, ""},
		{0, "4500002000090000090197c40a00000108080808080019250009000170696e67", api.Sent, 1, "4500002000090000080166bfcb00710508080808080005a61388000170696e67"},
		{1, "4500002000090000090165bf08080808cb00710500000da61388000170696e67", api.Sent, 0, "4500002000090000080198c4080808080a000001000021250009000170696e67"},
		{0, "4500001c00070002091197b80a00000108080808696a6b6c6d6e6f70", api.Held, 0, ""},
		{0, "4500002400072000091177b20a0000010808080803e8003500189e456162636465666768", api.Sent, 1, "4500002400072000081146adcb007105080808081388003500185ca06162636465666768 4500001c00070002081166b3cb00710508080808696a6b6c6d6e6f70"},
		{1, "4500003b00030000280152b401020304cb0071050b004132000000004500001f0007000001116db2cb0071050808080813880035000bd39161736b", api.Sent, 0, "4500003b00030000270185b9010203040a0000010b000f2d000000004500001f0007000001119fb70a0000010808080803e80035000b153761736b"},
		{1, "4500002200070000091165af08080808cb00710500351388000e65a7616e73776572", api.Unasked, 0, ""},
	} {
		if i == 8 {
			shows(t, b, "time 0", "session 6 167772162 2000 5000 134744072 80 2 60", "session 17 167772161 1000 5000 134744072 53 0 30", "session 17 167772162 7 5001 3405803781 5000 0 30")
		}
		if i == 13 {
			tick(t, b, 31)
		}
		raw, _ := hex.DecodeString(c.raw)
		var frames []api.Frame
		for _, one := range strings.Fields(c.goes) {
			want, _ := hex.DecodeString(one)
			frames = append(frames, api.Frame{Side: c.out, Raw: string(want)})
		}
		receive(t, b, c.side, string(raw), c.what, frames)
	}
	shows(t, b, "time 31", "session 6 167772162 2000 5000 134744072 80 2 60")
}
