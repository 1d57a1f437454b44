package gateway

import "gateway/api"

const addresses = 1 << 32

func valid(c api.Config) bool {
	return validNet(c) && validPorts(c) && validQuota(c)
}

func validNet(c api.Config) bool {
	if c.Out < 1 || c.Out > addresses-2 {
		return false
	}
	if c.Bits < 8 || c.Bits > 30 || c.Net < 0 || c.Net >= addresses {
		return false
	}
	return c.Net%netSize(c) == 0 && !inner(c, c.Out)
}

func validPorts(c api.Config) bool {
	return c.Lo >= 1 && c.Lo <= c.Hi && c.Hi <= 65535 && c.Hi-c.Lo < api.MaxPorts
}

func validQuota(c api.Config) bool {
	return c.PerSource >= 1 && c.PerSource <= c.Global && c.Global <= api.MaxQuota
}

// netSize is how many addresses the inner net has: at least 1, so that it may divide.
func netSize(c api.Config) int {
	if c.Bits < 0 || c.Bits > 32 {
		return 1
	}
	return 1 << (32 - c.Bits)
}

// inner tells whether an address is in the inner net.
func inner(c api.Config, address int) bool {
	return address >= c.Net && address-c.Net < netSize(c)
}

// mayPass tells whether a packet may go between these addresses if it comes in at that side.
func (b *Box) mayPass(side, src, dst int) bool {
	if side == api.Inside {
		return inner(b.config, src) && !inner(b.config, dst)
	}
	return !inner(b.config, src) && src != b.config.Out && dst == b.config.Out
}
