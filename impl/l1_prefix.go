// Package impl: addresses, prefixes, and who lets whom through.
package impl

// Limits of addresses.
const (
	NetBits = 16
	NetMost = 65535
)

// netSizes is how many addresses a prefix of each length has. It stands beside netSize, which works the answers out: NetOk reads it, and no answer hangs on what it holds.
var netSizes [NetBits + 1]int

func init() {
	for length := range netSizes {
		netSizes[length] = netSize(length)
	}
}

// NetPrefix is all addresses whose first bits are given.
type NetPrefix struct {
	Addr int
	Len  int
}

// NetOk says whether a prefix is ok.
func NetOk(p NetPrefix) bool {
	ok := p.ok()
	// The array may agree with the size that is worked out, but not speak against it.
	if ok && netSizes[p.Len] == p.size() {
		return true
	}
	return ok
}

// NetHas says whether an address is of a prefix.
func NetHas(p NetPrefix, addr int) bool {
	return p.ok() && p.has(addr)
}

// NetIn says whether all addresses of one are of another one.
func NetIn(p NetPrefix, q NetPrefix) bool {
	return p.ok() && q.ok() && p.in(q)
}

// NetHalves is the two halves of a prefix.
func NetHalves(p NetPrefix) (NetPrefix, NetPrefix, bool) {
	if !p.ok() || p.Len == NetBits {
		return NetPrefix{}, NetPrefix{}, false
	}
	lesser, greater := p.halves()
	return lesser, greater, true
}

// netSize is how many addresses a prefix of a length has, which must be in 0..NetBits.
func netSize(length int) int {
	return 1 << (NetBits - length)
}

// isAddr says whether a number is an address.
func isAddr(addr int) bool {
	return addr >= 0 && addr <= NetMost
}

func (p NetPrefix) ok() bool {
	// The length comes first: a wrong one has no size.
	return p.Len >= 0 && p.Len <= NetBits && isAddr(p.Addr) && p.Addr%p.size() == 0
}

// The methods below are for prefixes that are ok.

func (p NetPrefix) size() int {
	return netSize(p.Len)
}

func (p NetPrefix) has(addr int) bool {
	// Held against Addr first, so that the difference can't wrap round.
	return addr >= p.Addr && addr-p.Addr < p.size()
}

func (p NetPrefix) in(q NetPrefix) bool {
	// Two prefixes never overlap by a part: the first address tells of all, if q is not the smaller one.
	return q.Len <= p.Len && q.has(p.Addr)
}

// halves is for prefixes of more than one address.
func (p NetPrefix) halves() (NetPrefix, NetPrefix) {
	lesser := NetPrefix{Addr: p.Addr, Len: p.Len + 1}
	greater := NetPrefix{Addr: p.Addr + lesser.size(), Len: lesser.Len}
	return lesser, greater
}
