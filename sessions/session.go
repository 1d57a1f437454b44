// Package sessions keeps who inside has asked whom outside, and which outer port each asker was lent.
package sessions

import (
	"strconv"

	"gateway/api"
	"gateway/wire"
)

// Session says that an inner end has asked a far end by a protocol.
type Session struct {
	proto      int
	inner, far wire.End
	port       int // the outer one
	deadline   int
	talk       talk
}

// before is the order in which sessions are shown.
func (s Session) before(o Session) bool {
	if s.proto != o.proto {
		return s.proto < o.proto
	}
	if s.inner.Address != o.inner.Address {
		return s.inner.Address < o.inner.Address
	}
	if s.inner.Port != o.inner.Port {
		return s.inner.Port < o.inner.Port
	}
	if s.far.Address != o.far.Address {
		return s.far.Address < o.far.Address
	}
	return s.far.Port < o.far.Port
}

// ticks is how long the session may rest.
func (s Session) ticks() int {
	switch s.proto {
	case api.UDP:
		return api.UDPTicks
	case api.ICMP:
		return api.ICMPTicks
	}
	switch s.talk.stands {
	case api.Open:
		return api.OpenTicks
	case api.Closing:
		return api.ClosingTicks
	}
	return api.NewTicks
}

func (s Session) line() string {
	text := "session " + strconv.Itoa(s.proto)
	text += " " + strconv.Itoa(s.inner.Address) + " " + strconv.Itoa(s.inner.Port)
	text += " " + strconv.Itoa(s.port)
	text += " " + strconv.Itoa(s.far.Address) + " " + strconv.Itoa(s.far.Port)
	text += " " + strconv.Itoa(s.talk.stands) + " " + strconv.Itoa(s.deadline)
	return text + "\n"
}
