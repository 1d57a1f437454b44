package sessions

import "gateway/api"

// talk is how a TCP session stands and what of its past still matters; of other protocols it is zero.
type talk struct {
	stands     int
	answered   bool // a message from outside had SYN and ACK
	insideFin  bool
	outsideFin bool
}

func firstTalk(proto int) talk {
	if proto != api.TCP {
		return talk{}
	}
	return talk{stands: api.New}
}

// behind is how a TCP session stands behind a message that came from a side.
func (t talk) behind(side, flags int) talk {
	if flags&api.RST != 0 {
		return talk{stands: api.Closing}
	}
	if t.stands == api.Closing {
		if side == api.Inside && flags&(api.SYN|api.ACK) == api.SYN {
			return firstTalk(api.TCP)
		}
		return t
	}
	if t.stands == api.New {
		t = t.opening(side, flags)
	}
	return t.ending(side, flags)
}

func (t talk) opening(side, flags int) talk {
	if side == api.Inside {
		if t.answered && flags&api.ACK != 0 {
			t.stands = api.Open
		}
		return t
	}
	if flags&(api.SYN|api.ACK) == api.SYN|api.ACK {
		t.answered = true
	}
	return t
}

func (t talk) ending(side, flags int) talk {
	if flags&api.FIN == 0 {
		return t
	}
	if side == api.Inside {
		t.insideFin = true
	} else {
		t.outsideFin = true
	}
	if t.insideFin && t.outsideFin {
		return talk{stands: api.Closing}
	}
	return t
}
