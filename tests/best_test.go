package tests

import (
	"math"
	"slices"
	"testing"

	"loop.example/ternnet/impl"
)

// bestOf is another way to say which prefix is the best: of the longest length that has the address, the first.
func bestOf(list []impl.NetPrefix, addr int) int {
	for length := 16; length >= 0; length-- {
		for at, p := range list {
			ok := p.Len == length && p.Addr >= 0 && p.Addr <= 65535 && p.Addr%(1<<(16-length)) == 0
			if ok && addr >= 0 && addr <= 65535 && sameFirstBits(p, addr) {
				return at
			}
		}
	}
	return -1
}

// addrsNear is the ends of each prefix that is ok, their neighbours, and numbers that are no addresses.
func addrsNear(list []impl.NetPrefix) []int {
	addrs := []int{0, 1, 255, 256, 32767, 32768, 65534, 65535, -1, -256, -65535, -65536, 65536, 65537, 131071, 1 << 32, math.MinInt, math.MaxInt}
	for _, p := range list {
		if p.Len >= 0 && p.Len <= 16 {
			last := p.Addr + 1<<(16-p.Len) - 1
			addrs = append(addrs, p.Addr-1, p.Addr, p.Addr+1, last-1, last, last+1)
		}
	}
	return addrs
}

func checkBest(t *testing.T, list []impl.NetPrefix, addrs []int) {
	t.Helper()
	for _, addr := range addrs {
		if got, want := impl.NetBest(list, addr), bestOf(list, addr); got != want {
			t.Fatalf("NetBest(%v, %d) = %d, not %d", list, addr, got, want)
		}
	}
}

func everyAddr() []int {
	addrs := make([]int, 65536)
	for addr := range addrs {
		addrs[addr] = addr
	}
	return addrs
}

func TestBestWritten(t *testing.T) {
	for _, c := range []struct {
		list string
		addr int
		want int
	}{
		{"", 0, -1},
		{"0.0/0", 0, 0}, {"0.0/0", 65535, 0}, {"0.0/0", -1, -1}, {"0.0/0", 65536, -1},
		{"0.0/16", 0, 0}, {"0.0/16", 1, -1}, {"255.255/16", 65535, 0}, {"255.255/16", 65534, -1}, {"255.255/16", 65536, -1},
		{"1.0/8 1.0/9 1.0/10", 256, 2}, {"1.0/10 1.0/9 1.0/8", 256, 0}, {"1.0/9 1.0/10 1.0/8", 256, 1}, {"1.0/9 1.0/10 1.0/8", 511, 2},
		{"1.0/8 1.0/8 1.0/8", 300, 0}, {"0.0/0 1.0/8 1.0/8", 300, 1}, {"2.0/8 1.0/8 1.0/8 0.0/0 1.0/8", 300, 1}, {"1.0/8 1.44/16 1.44/16 1.0/8", 300, 1},
		{"0.0/0 2.0/8", 300, 0}, {"2.0/8 3.0/8", 300, -1},
		{"1.1/8 1.0/8", 257, 1}, {"1.0/8 1.0/17 1.0/-1", 256, 0}, {"0.1/0", 1, -1}, {"1.1/8 1.1/9", 257, -1},
	} {
		if got := impl.NetBest(prefixes(t, c.list), c.addr); got != c.want {
			t.Errorf("NetBest(%s, %d) = %d, not %d", c.list, c.addr, got, c.want)
		}
	}
	if impl.NetBest(nil, 0) != -1 || impl.NetBest([]impl.NetPrefix{}, 65535) != -1 || impl.NetBest(nil, math.MinInt) != -1 {
		t.Error("the best of nothing")
	}
}

// P5: over all addresses, lists of all kinds.
func TestBestAtEveryAddress(t *testing.T) {
	d := dice(21)
	addrs := everyAddr()
	for _, list := range [][]impl.NetPrefix{
		d.crowd(impl.NetPrefix{}, 16, 12),
		d.crowd(impl.NetPrefix{}, 3, 40),
		d.crowd(impl.NetPrefix{Addr: 256, Len: 8}, 8, 40),
		d.pieces(impl.NetPrefix{}, 20),
		slices.Concat(wrongPrefixes(), d.crowd(impl.NetPrefix{}, 6, 10), wrongPrefixes(), d.crowd(impl.NetPrefix{}, 6, 10)),
	} {
		checkBest(t, list, addrs)
		checkBest(t, list, addrsNear(list))
	}
}

func TestBestOfManyLists(t *testing.T) {
	d := dice(22)
	for _, list := range manyLists() {
		checkBest(t, list, addrsNear(list))
		mixed := slices.Concat(list, wrongPrefixes(), list)
		d.shuffle(mixed)
		checkBest(t, mixed, addrsNear(mixed))
	}
}

// Prefixes that are not ok are passed over, and none of their addresses is found by them.
func TestBestOfWrongPrefixes(t *testing.T) {
	wrong := wrongPrefixes()
	for _, addr := range addrsNear(wrong) {
		if got := impl.NetBest(wrong, addr); got != -1 {
			t.Errorf("NetBest at %d: %v", addr, wrong[got])
		}
	}
	for _, p := range wrong {
		list := []impl.NetPrefix{p, {}, p}
		for _, addr := range []int{0, 1, 256, 257, 32768, 65535} {
			if got := impl.NetBest(list, addr); got != 1 {
				t.Errorf("NetBest(%v, %d) = %d", list, addr, got)
			}
		}
	}
}

// The limit of sets is none for NetBest.
func TestBestOfMoreThanASet(t *testing.T) {
	d := dice(23)
	for _, n := range []int{40, 41, 42, 100, 2000} {
		list := d.crowd(impl.NetPrefix{}, 16, n)
		checkBest(t, list, addrsNear(list[:20]))
		same := slices.Repeat([]impl.NetPrefix{{Addr: 512, Len: 7}}, n)
		same[n-1] = impl.NetPrefix{Addr: 513, Len: 16}
		if impl.NetBest(same, 512) != 0 || impl.NetBest(same, 513) != n-1 || impl.NetBest(same, 1024) != -1 {
			t.Errorf("%d prefixes: %d, %d, %d", n, impl.NetBest(same, 512), impl.NetBest(same, 513), impl.NetBest(same, 1024))
		}
	}
	every := everyPrefix()
	for addr := 0; addr <= 65535; addr += 4369 {
		if got := impl.NetBest(every, addr); got != 65535+addr {
			t.Errorf("NetBest of every prefix, at %d: %d", addr, got)
		}
	}
}
