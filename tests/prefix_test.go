package tests

import (
	"math"
	"testing"

	"loop.example/ternnet/impl"
)

// everyPrefix is all prefixes that are ok, made without the program: a start every count addresses.
func everyPrefix() []impl.NetPrefix {
	var all []impl.NetPrefix
	count := 65536
	for length := 0; length <= 16; length++ {
		for addr := 0; addr <= 65535; addr += count {
			all = append(all, impl.NetPrefix{Addr: addr, Len: length})
		}
		count /= 2
	}
	return all
}

// somePrefixes is, of each length, the first, the last and some between.
func somePrefixes() []impl.NetPrefix {
	var some []impl.NetPrefix
	seen := map[impl.NetPrefix]bool{}
	count := 65536
	for length := 0; length <= 16; length++ {
		for _, near := range []int{0, 1, 255, 256, 511, 21845, 32767, 32768, 43690, 65534, 65535} {
			p := impl.NetPrefix{Addr: near / count * count, Len: length}
			if !seen[p] {
				seen[p] = true
				some = append(some, p)
			}
		}
		count /= 2
	}
	return some
}

func wrongPrefixes() []impl.NetPrefix {
	return []impl.NetPrefix{
		{Addr: 0, Len: -1}, {Addr: 0, Len: 17}, {Addr: 0, Len: 64}, {Addr: 0, Len: math.MinInt}, {Addr: 0, Len: math.MaxInt},
		{Addr: 256, Len: -8}, {Addr: 65535, Len: 17},
		{Addr: -1, Len: 16}, {Addr: -2, Len: 15}, {Addr: -65536, Len: 0}, {Addr: -65536, Len: 16}, {Addr: math.MinInt, Len: 0}, {Addr: math.MinInt, Len: 16},
		{Addr: 65536, Len: 0}, {Addr: 65536, Len: 1}, {Addr: 65536, Len: 16}, {Addr: math.MaxInt, Len: 16}, {Addr: 1 << 32, Len: 0},
		{Addr: 1, Len: 0}, {Addr: 1, Len: 15}, {Addr: 2, Len: 14}, {Addr: 257, Len: 8}, {Addr: 128, Len: 8}, {Addr: 32768, Len: 0}, {Addr: 65535, Len: 0}, {Addr: 65535, Len: 15},
	}
}

// sameFirstBits is another way to say that a prefix that is ok has an address.
func sameFirstBits(p impl.NetPrefix, addr int) bool {
	return addr>>(16-p.Len) == p.Addr>>(16-p.Len)
}

type addrSet [65536]bool

func addrsOf(p impl.NetPrefix) *addrSet {
	set := &addrSet{}
	for addr := range set {
		set[addr] = sameFirstBits(p, addr)
	}
	return set
}

func (s *addrSet) allIn(other *addrSet) bool {
	for addr := range s {
		if s[addr] && !other[addr] {
			return false
		}
	}
	return true
}

func TestNetOkAtEveryLengthAndAddress(t *testing.T) {
	ok := map[impl.NetPrefix]bool{}
	for _, p := range everyPrefix() {
		ok[p] = true
	}
	if len(ok) != 131071 {
		t.Fatalf("%d prefixes", len(ok))
	}
	for length := -2; length <= 18; length++ {
		for addr := -200; addr <= 65536+200; addr++ {
			p := impl.NetPrefix{Addr: addr, Len: length}
			if impl.NetOk(p) != ok[p] {
				t.Fatalf("NetOk(%v) = %v", p, !ok[p])
			}
		}
	}
}

func TestNetOkWrong(t *testing.T) {
	for _, p := range wrongPrefixes() {
		if impl.NetOk(p) {
			t.Errorf("NetOk(%v)", p)
		}
	}
}

func TestNetHasAtEveryAddress(t *testing.T) {
	for _, p := range somePrefixes() {
		for addr := 0; addr <= 65535; addr++ {
			if impl.NetHas(p, addr) != sameFirstBits(p, addr) {
				t.Fatalf("NetHas(%v, %d) = %v", p, addr, !sameFirstBits(p, addr))
			}
		}
	}
}

func TestNetHasFirstAndLast(t *testing.T) {
	for _, p := range everyPrefix() {
		last := p.Addr | (1<<(16-p.Len) - 1)
		if !impl.NetHas(p, p.Addr) || !impl.NetHas(p, last) || impl.NetHas(p, p.Addr-1) || impl.NetHas(p, last+1) {
			t.Fatalf("NetHas at the ends of %v", p)
		}
	}
}

func TestNetHasWrong(t *testing.T) {
	for _, p := range somePrefixes() {
		for _, addr := range []int{-1, -65536, 65536, 131072, 1 << 32, math.MinInt, math.MaxInt} {
			if impl.NetHas(p, addr) {
				t.Errorf("NetHas(%v, %d)", p, addr)
			}
		}
	}
	for _, p := range wrongPrefixes() {
		for _, addr := range []int{p.Addr, p.Addr + 1, 0, 1, 256, 65535, 65536, -1, math.MinInt, math.MaxInt} {
			if impl.NetHas(p, addr) {
				t.Errorf("NetHas(%v, %d)", p, addr)
			}
		}
	}
}

// P3: one prefix is in another one just if all its addresses are.
func TestNetInJustIfAllAddressesAre(t *testing.T) {
	some := somePrefixes()
	sets := make([]*addrSet, len(some))
	for i, p := range some {
		sets[i] = addrsOf(p)
	}
	for i, p := range some {
		for j, q := range some {
			want := sets[i].allIn(sets[j])
			if impl.NetIn(p, q) != want {
				t.Errorf("NetIn(%v, %v) = %v", p, q, !want)
			}
		}
	}
}

func TestNetInOfEveryPrefix(t *testing.T) {
	whole := impl.NetPrefix{}
	for _, p := range everyPrefix() {
		if !impl.NetIn(p, p) || !impl.NetIn(p, whole) || impl.NetIn(whole, p) != (p == whole) {
			t.Fatalf("NetIn of %v", p)
		}
	}
}

func TestNetInWrong(t *testing.T) {
	for _, wrong := range wrongPrefixes() {
		if impl.NetIn(wrong, wrong) {
			t.Errorf("NetIn(%v, itself)", wrong)
		}
		for _, p := range somePrefixes() {
			if impl.NetIn(wrong, p) || impl.NetIn(p, wrong) {
				t.Errorf("NetIn of %v and %v", wrong, p)
			}
		}
	}
}

// P3: halves are in the whole, not in each other, and have all of it.
func TestNetHalvesOfEveryPrefix(t *testing.T) {
	for _, p := range everyPrefix() {
		a, b, ok := impl.NetHalves(p)
		if p.Len == 16 {
			if ok || a != (impl.NetPrefix{}) || b != (impl.NetPrefix{}) {
				t.Fatalf("NetHalves(%v) = %v %v %v", p, a, b, ok)
			}
			continue
		}
		if !ok || !impl.NetOk(a) || !impl.NetOk(b) || a.Len != p.Len+1 || b.Len != p.Len+1 || a.Addr >= b.Addr {
			t.Fatalf("NetHalves(%v) = %v %v %v", p, a, b, ok)
		}
		if !impl.NetIn(a, p) || !impl.NetIn(b, p) || impl.NetIn(a, b) || impl.NetIn(b, a) || impl.NetIn(p, a) || impl.NetIn(p, b) {
			t.Fatalf("the halves %v and %v of %v", a, b, p)
		}
	}
}

func TestNetHalvesHaveAllOfIt(t *testing.T) {
	for _, p := range somePrefixes() {
		a, b, ok := impl.NetHalves(p)
		for addr := 0; ok && addr <= 65535; addr++ {
			inA, inB := impl.NetHas(a, addr), impl.NetHas(b, addr)
			if inA && inB || (inA || inB) != sameFirstBits(p, addr) {
				t.Fatalf("address %d and the halves %v and %v of %v", addr, a, b, p)
			}
		}
	}
}

func TestNetHalvesWritten(t *testing.T) {
	for _, c := range []struct{ p, a, b impl.NetPrefix }{
		{impl.NetPrefix{Addr: 0, Len: 0}, impl.NetPrefix{Addr: 0, Len: 1}, impl.NetPrefix{Addr: 32768, Len: 1}},
		{impl.NetPrefix{Addr: 256, Len: 8}, impl.NetPrefix{Addr: 256, Len: 9}, impl.NetPrefix{Addr: 384, Len: 9}},
		{impl.NetPrefix{Addr: 0, Len: 15}, impl.NetPrefix{Addr: 0, Len: 16}, impl.NetPrefix{Addr: 1, Len: 16}},
		{impl.NetPrefix{Addr: 65534, Len: 15}, impl.NetPrefix{Addr: 65534, Len: 16}, impl.NetPrefix{Addr: 65535, Len: 16}},
	} {
		a, b, ok := impl.NetHalves(c.p)
		if !ok || a != c.a || b != c.b {
			t.Errorf("NetHalves(%v) = %v %v %v", c.p, a, b, ok)
		}
	}
}

func TestNetHalvesWrong(t *testing.T) {
	for _, p := range wrongPrefixes() {
		a, b, ok := impl.NetHalves(p)
		if ok || a != (impl.NetPrefix{}) || b != (impl.NetPrefix{}) {
			t.Errorf("NetHalves(%v) = %v %v %v", p, a, b, ok)
		}
	}
}
