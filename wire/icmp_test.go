package wire

import (
	"strings"
	"testing"

	"gateway/api"
)

// However short the message is, nothing is read or written beyond it, and its length stays.
func TestAnyError(t *testing.T) {
	for _, proto := range []int{api.ICMP, api.TCP, api.UDP, 0, 255} {
		for n := range 80 {
			message := (strings.Repeat("\x03", 8) + "\x45" + strings.Repeat(string([]byte{byte(proto)}), 80))[:n]
			d := Datagram{Proto: api.ICMP, Message: message}
			if _, formed := d.About(); formed {
				t.Errorf("%x: a header that is not right", message)
			}
			told := d.Retold(1, 2, End{3, 4}, End{5, 6})
			if len(told.Message) != n {
				t.Errorf("%x became %x", message, told.Message)
			}
		}
	}
}
