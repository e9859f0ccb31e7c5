package tests

import (
	"fmt"
	"slices"
	"strings"
	"testing"

	"loop.example/ternnet/impl"
)

// prefixes reads prefixes with blanks between, without the program, so that wrong ones may stand there too.
func prefixes(t *testing.T, texts string) []impl.NetPrefix {
	t.Helper()
	var list []impl.NetPrefix
	for _, text := range strings.Fields(texts) {
		var first, second, length int
		if _, err := fmt.Sscanf(text, "%d.%d/%d", &first, &second, &length); err != nil {
			t.Fatalf("%q: %v", text, err)
		}
		list = append(list, impl.NetPrefix{Addr: first*256 + second, Len: length})
	}
	return list
}

// leftOf is the addresses that some of list have and none of out has.
func leftOf(list, out []impl.NetPrefix) *addrSet {
	have, haveNot := unionOf(list), unionOf(out)
	for addr := range have {
		have[addr] = have[addr] && !haveNot[addr]
	}
	return have
}

func unionOf(list []impl.NetPrefix) *addrSet {
	set := &addrSet{}
	for _, p := range list {
		for addr := p.Addr; addr < p.Addr+1<<(16-p.Len); addr++ {
			set[addr] = true
		}
	}
	return set
}

// fewestOf goes up through the addresses and takes, each time, as many as one prefix may have from there.
func fewestOf(set *addrSet) []impl.NetPrefix {
	var ends [65537]int
	ends[65536] = 65536
	for addr := 65535; addr >= 0; addr-- {
		ends[addr] = addr
		if set[addr] {
			ends[addr] = ends[addr+1]
		}
	}
	var list []impl.NetPrefix
	for addr := 0; addr <= 65535; {
		if !set[addr] {
			addr++
			continue
		}
		count, length := 65536, 0
		for addr%count != 0 || addr+count > ends[addr] {
			count /= 2
			length++
		}
		list = append(list, impl.NetPrefix{Addr: addr, Len: length})
		addr += count
	}
	return list
}

// checkFewest is promise 1, word by word.
func checkFewest(t *testing.T, got []impl.NetPrefix, set *addrSet) {
	t.Helper()
	var times [65536]int
	there := map[impl.NetPrefix]bool{}
	for i, p := range got {
		if p.Len < 0 || p.Len > 16 || p.Addr < 0 || p.Addr > 65535 || p.Addr%(1<<(16-p.Len)) != 0 {
			t.Fatalf("%v is not ok", p)
		}
		if i > 0 && p.Addr <= got[i-1].Addr {
			t.Fatalf("%v comes after %v", p, got[i-1])
		}
		for addr := p.Addr; addr < p.Addr+1<<(16-p.Len); addr++ {
			times[addr]++
		}
		other := impl.NetPrefix{Addr: p.Addr ^ 1<<(16-p.Len), Len: p.Len}
		if p.Len > 0 && there[other] {
			t.Fatalf("%v and %v are the halves of one", other, p)
		}
		there[p] = true
	}
	for addr, n := range times {
		if n > 1 || (n == 1) != set[addr] {
			t.Fatalf("the address %d is in %d of the prefixes; in the set: %v", addr, n, set[addr])
		}
	}
}

func checkWithout(t *testing.T, list, out []impl.NetPrefix) []impl.NetPrefix {
	t.Helper()
	got := impl.NetWithout(list, out)
	set := leftOf(list, out)
	checkFewest(t, got, set)
	if want := fewestOf(set); !slices.Equal(got, want) {
		t.Fatalf("NetWithout(%v, %v) = %v, not %v", list, out, got, want)
	}
	if len(out) == 0 {
		if cover := impl.NetCover(list); !slices.Equal(cover, got) {
			t.Fatalf("NetCover(%v) = %v, not %v", list, cover, got)
		}
	}
	return got
}

// dice are numbers that look thrown and are always the same ones.
type dice uint64

func (d *dice) below(n int) int {
	*d = *d*6364136223846793005 + 1442695040888963407
	return int(*d >> 33 % dice(n))
}

func (d *dice) shuffle(list []impl.NetPrefix) {
	for i := range list {
		j := i + d.below(len(list)-i)
		list[i], list[j] = list[j], list[i]
	}
}

// prefixIn is a prefix within another one, at most so many bits longer.
func (d *dice) prefixIn(whole impl.NetPrefix, longer int) impl.NetPrefix {
	length := whole.Len + d.below(min(longer, 16-whole.Len)+1)
	return impl.NetPrefix{Addr: whole.Addr + d.below(1<<(length-whole.Len))<<(16-length), Len: length}
}

// crowd is n prefixes within one, so near that they meet, lie in one another and stand twice.
func (d *dice) crowd(whole impl.NetPrefix, longer int, n int) []impl.NetPrefix {
	var list []impl.NetPrefix
	for range n {
		list = append(list, d.prefixIn(whole, longer))
	}
	return list
}

// pieces is a prefix broken into n, halves of halves, shuffled: they join over several lengths.
func (d *dice) pieces(whole impl.NetPrefix, n int) []impl.NetPrefix {
	list := []impl.NetPrefix{whole}
	for tries := 0; len(list) < n && tries < 1000; tries++ {
		i := d.below(len(list))
		p := list[i]
		if p.Len < 16 {
			list[i].Len++
			list = append(list, impl.NetPrefix{Addr: p.Addr + 1<<(15-p.Len), Len: p.Len + 1})
		}
	}
	d.shuffle(list)
	return list
}

// manyLists is lists that are ok, of all sizes up to 40.
func manyLists() [][]impl.NetPrefix {
	d := dice(5)
	lists := [][]impl.NetPrefix{nil, {}, {{Addr: 0, Len: 0}}, {{Addr: 0, Len: 16}}, {{Addr: 65535, Len: 16}}}
	for n := 1; n <= 40; n++ {
		whole := d.prefixIn(impl.NetPrefix{}, 12)
		lists = append(lists,
			d.crowd(impl.NetPrefix{}, 16, n),
			d.crowd(whole, 4, n),
			d.pieces(whole, n),
			d.pieces(impl.NetPrefix{}, n))
	}
	return lists
}

// P1: ordinary lists, and the edges that the document names.
func TestWithoutWritten(t *testing.T) {
	for _, c := range []struct{ name, list, out, want string }{
		{"nothing", "", "", ""},
		{"nothing without all", "", "0.0/0", ""},
		{"one", "1.0/8", "", "1.0/8"},
		{"two apart", "9.0/8 1.0/8", "", "1.0/8 9.0/8"},
		{"neighbours that are no halves", "1.0/8 2.0/8", "", "1.0/8 2.0/8"},
		{"neighbours of two lengths", "1.0/9 1.128/10", "", "1.0/9 1.128/10"},
		{"halves", "1.128/9 1.0/9", "", "1.0/8"},
		{"one in another", "1.7/16 1.0/8 1.128/9", "", "1.0/8"},
		{"twice", "1.0/8 2.0/8 1.0/8 2.0/8", "", "1.0/8 2.0/8"},
		{"all", "0.0/0", "", "0.0/0"},
		{"all, of halves", "128.0/1 0.0/1", "", "0.0/0"},
		{"all and more", "255.255/16 0.0/0 0.0/16", "", "0.0/0"},
		{"the first address", "0.0/16", "", "0.0/16"},
		{"the last address", "255.255/16", "", "255.255/16"},
		{"the first and the last", "255.255/16 0.0/16", "", "0.0/16 255.255/16"},
		{"the last two", "255.255/16 255.254/16", "", "255.254/15"},
		{"joins over three lengths", "0.0/1 128.0/2 192.0/3 224.0/3", "", "0.0/0"},
		{"joins up to a hole", "0.0/1 128.0/2 192.0/3", "", "0.0/1 128.0/2 192.0/3"},
		{"addresses that join twice", "1.3/16 1.1/16 1.2/16 1.0/16", "", "1.0/14"},
		{"addresses in the middle", "1.1/16 1.2/16", "", "1.1/16 1.2/16"},
		{"without itself", "1.0/8", "1.0/8", ""},
		{"without a half", "1.0/8", "1.128/9", "1.0/9"},
		{"without more", "1.0/8 1.5/16", "1.0/7 0.0/16", ""},
		{"without something else", "1.0/8", "2.0/8 255.255/16", "1.0/8"},
		{"a hole of one address", "1.0/8", "1.4/16", "1.0/14 1.5/16 1.6/15 1.8/13 1.16/12 1.32/11 1.64/10 1.128/9"},
		{"halves, and a hole in one", "1.0/9 1.128/9", "1.0/10", "1.64/10 1.128/9"},
		{"halves, and the other hole", "1.0/9 1.128/9", "1.192/10", "1.0/9 1.128/10"},
		{"halves, and a hole in each", "1.0/9 1.128/9", "1.0/10 1.192/10", "1.64/10 1.128/10"},
		{"halves, and a hole beside", "1.0/9 1.128/9", "0.0/8 2.0/16", "1.0/8"},
		{"a hole, and one within it", "1.0/8", "1.0/9 1.64/10 1.65/16", "1.128/9"},
		{"a hole that list has again", "1.0/8 1.0/9 1.1/16", "1.0/9", "1.128/9"},
		{"holes that join", "1.0/8", "1.128/10 1.192/10", "1.0/9"},
		{"two holes of one half", "1.0/8 2.0/8", "1.0/9 1.128/9", "2.0/8"},
		{"all without the first", "0.0/0", "0.0/16", "0.1/16 0.2/15 0.4/14 0.8/13 0.16/12 0.32/11 0.64/10 0.128/9 1.0/8 2.0/7 4.0/6 8.0/5 16.0/4 32.0/3 64.0/2 128.0/1"},
		{"all without the last", "0.0/0", "255.255/16", "0.0/1 128.0/2 192.0/3 224.0/4 240.0/5 248.0/6 252.0/7 254.0/8 255.0/9 255.128/10 255.192/11 255.224/12 255.240/13 255.248/14 255.252/15 255.254/16"},
		{"all without all", "0.0/0", "0.0/1 128.0/1", ""},
	} {
		t.Run(c.name, func(t *testing.T) {
			list, out, want := prefixes(t, c.list), prefixes(t, c.out), prefixes(t, c.want)
			if got := checkWithout(t, list, out); !slices.Equal(got, want) {
				t.Errorf("NetWithout(%s, %s) = %v", c.list, c.out, got)
			}
			slices.Reverse(list)
			slices.Reverse(out)
			checkWithout(t, list, out)
		})
	}
}

// P1, over all addresses: lists of all sizes, alone and without one another.
func TestWithoutOfManyLists(t *testing.T) {
	lists := manyLists()
	for i, list := range lists {
		checkWithout(t, list, nil)
		for _, step := range []int{1, 2, 7} {
			checkWithout(t, list, lists[(i+step)%len(lists)])
		}
	}
}

// What joins to one only when a hole is not there: in list, and in out.
func TestHolesKeepHalvesApart(t *testing.T) {
	d := dice(9)
	for _, whole := range prefixes(t, "0.0/0 128.0/1 1.0/8 255.0/8 7.224/11 255.254/15 0.0/15") {
		n := min(20, 1<<(16-whole.Len))
		list := d.pieces(whole, n)
		if got := checkWithout(t, list, nil); !slices.Equal(got, []impl.NetPrefix{whole}) {
			t.Errorf("NetCover(%v) = %v", list, got)
		}
		for at := range list {
			if got := checkWithout(t, slices.Delete(slices.Clone(list), at, at+1), nil); slices.Contains(got, whole) {
				t.Errorf("%v joined without %v", whole, list[at])
			}
			if got := checkWithout(t, list, list[at:at+1]); slices.Contains(got, whole) {
				t.Errorf("%v joined but for %v", whole, list[at])
			}
			one := impl.NetPrefix{Addr: list[at].Addr, Len: 16}
			checkWithout(t, list, []impl.NetPrefix{one})
			checkWithout(t, append(slices.Clone(list), whole), []impl.NetPrefix{one, list[at]})
		}
	}
}

// smallWorld is the prefixes within one, the shorter first, and what each has, as bits.
func smallWorld(whole impl.NetPrefix) (blocks []impl.NetPrefix, bits []int) {
	count := 1 << (16 - whole.Len)
	for length := whole.Len; length <= 16; length++ {
		size := 1 << (16 - length)
		for from := 0; from < count; from += size {
			blocks = append(blocks, impl.NetPrefix{Addr: whole.Addr + from, Len: length})
			bits = append(bits, (1<<size-1)<<from)
		}
	}
	return blocks, bits
}

// chosen is those of blocks whose bit is set in which, and what they have together.
func chosen(blocks []impl.NetPrefix, bits []int, which int) (list []impl.NetPrefix, set int) {
	for i := range blocks {
		if which>>i&1 == 1 {
			list = append(list, blocks[i])
			set |= bits[i]
		}
	}
	return list, set
}

// fewestCounts is, for each set of a small world, how few prefixes may have just it: all choices are tried.
func fewestCounts(bits []int) map[int]int {
	counts := map[int]int{}
	for which := range 1 << len(bits) {
		set, n := 0, 0
		for i := range bits {
			if which>>i&1 == 1 {
				set |= bits[i]
				n++
			}
		}
		if least, ok := counts[set]; !ok || n < least {
			counts[set] = n
		}
	}
	return counts
}

// checkSmall holds an answer against a set of a small world and the least count for it.
func checkSmall(t *testing.T, got []impl.NetPrefix, blocks []impl.NetPrefix, bits []int, want int, least int) {
	t.Helper()
	set := 0
	for i, p := range got {
		at := slices.Index(blocks, p)
		if at < 0 || i > 0 && p.Addr <= got[i-1].Addr || set&bits[at] != 0 {
			t.Fatalf("the answer %v", got)
		}
		set |= bits[at]
	}
	if set != want || len(got) != least {
		t.Fatalf("the answer %v has the set %b, not %b, by %d, not %d", got, set, want, len(got), least)
	}
}

// P1: every list of prefixes of eight addresses, at both ends and in the middle.
func TestCoverOfEveryListOfEightAddresses(t *testing.T) {
	for _, whole := range prefixes(t, "0.0/13 100.8/13 255.248/13") {
		blocks, bits := smallWorld(whole)
		counts := fewestCounts(bits)
		for which := range 1 << len(blocks) {
			list, set := chosen(blocks, bits, which)
			checkSmall(t, impl.NetCover(list), blocks, bits, set, counts[set])
		}
	}
}

// P1: every list and every out of prefixes of four addresses, and of single ones of eight.
func TestWithoutOfEveryTwoSmallLists(t *testing.T) {
	for _, c := range []struct {
		whole string
		skip  int
	}{{"0.0/14", 0}, {"127.252/14", 0}, {"255.252/14", 0}, {"255.248/13", 7}, {"128.0/13", 7}} {
		whole := prefixes(t, c.whole)[0]
		blocks, bits := smallWorld(whole)
		counts := fewestCounts(bits)
		for which := range 1 << (len(blocks) - c.skip) {
			list, set := chosen(blocks, bits, which<<c.skip)
			for whichOut := range 1 << (len(blocks) - c.skip) {
				out, setOut := chosen(blocks, bits, whichOut<<c.skip)
				left := set &^ setOut
				checkSmall(t, impl.NetWithout(list, out), blocks, bits, left, counts[left])
			}
		}
	}
}

// The limit is on list and on out, each by itself; an answer may have more.
func TestWithoutAtTheLimit(t *testing.T) {
	d := dice(3)
	all := impl.NetPrefix{}
	ones := d.crowd(all, 16, 40)
	for i := range ones {
		ones[i] = impl.NetPrefix{Addr: i * 1638, Len: 16}
	}
	pieces := d.pieces(all, 40)
	if got := checkWithout(t, pieces, nil); !slices.Equal(got, []impl.NetPrefix{all}) {
		t.Errorf("40 pieces: %v", got)
	}
	if got := checkWithout(t, ones, nil); len(got) != 40 {
		t.Errorf("40 addresses: %v", got)
	}
	many := checkWithout(t, []impl.NetPrefix{all}, ones)
	if len(many) <= 40 {
		t.Errorf("%d prefixes around 40 addresses", len(many))
	}
	checkWithout(t, pieces, ones)
	checkWithout(t, ones, pieces)
	checkWithout(t, nil, ones)
	if got := impl.NetCover(many); len(got) != 0 {
		t.Errorf("NetCover of %d prefixes: %v", len(many), got)
	}
}

func TestWithoutOfTooMany(t *testing.T) {
	d := dice(4)
	one := impl.NetPrefix{Addr: 256, Len: 8}
	for _, n := range []int{41, 42, 80, 1000} {
		for _, list := range [][]impl.NetPrefix{
			slices.Repeat([]impl.NetPrefix{one}, n),
			make([]impl.NetPrefix, n),
			d.pieces(impl.NetPrefix{}, n),
		} {
			for name, got := range map[string][]impl.NetPrefix{
				"NetCover":                impl.NetCover(list),
				"in list":                 impl.NetWithout(list, nil),
				"in list, one in out":     impl.NetWithout(list, list[:1]),
				"in out":                  impl.NetWithout([]impl.NetPrefix{one}, list),
				"in out, 40 in list":      impl.NetWithout(list[:40], list),
				"in out, of nothing":      impl.NetWithout(nil, list),
				"in out, beside":          impl.NetWithout([]impl.NetPrefix{{Addr: 0, Len: 0}}, slices.Repeat([]impl.NetPrefix{one}, n)),
				"in list and in out":      impl.NetWithout(list, list),
				"in list, 40 in out":      impl.NetWithout(list, slices.Repeat([]impl.NetPrefix{one}, 40)),
				"in list, wrong one last": impl.NetWithout(append(slices.Clone(list), impl.NetPrefix{Addr: 1}), nil),
			} {
				if len(got) != 0 {
					t.Errorf("%d prefixes, %s: %v", n, name, got)
				}
			}
		}
	}
}

func TestWithoutOfWrongPrefixes(t *testing.T) {
	right := prefixes(t, "1.0/8 200.0/9 255.255/16")
	for _, wrong := range wrongPrefixes() {
		for at := 0; at <= len(right); at++ {
			list := slices.Insert(slices.Clone(right), at, wrong)
			for name, got := range map[string][]impl.NetPrefix{
				"NetCover":                  impl.NetCover(list),
				"in list":                   impl.NetWithout(list, nil),
				"in list, with an out":      impl.NetWithout(list, right[:1]),
				"in out":                    impl.NetWithout(right, list),
				"alone in out":              impl.NetWithout(right, []impl.NetPrefix{wrong}),
				"alone in out, all in list": impl.NetWithout([]impl.NetPrefix{{}}, []impl.NetPrefix{wrong}),
				"in list and in out":        impl.NetWithout(list, list),
			} {
				if len(got) != 0 {
					t.Errorf("%v at %d, %s: %v", wrong, at, name, got)
				}
			}
		}
		full := append(make([]impl.NetPrefix, 39), wrong)
		if len(impl.NetCover(full)) != 0 || len(impl.NetWithout(right, full)) != 0 {
			t.Errorf("%v as the last of 40", wrong)
		}
	}
}

// P2: NetCover of itself is itself.
func TestCoverOfACover(t *testing.T) {
	for _, list := range manyLists() {
		cover := impl.NetCover(list)
		if again := impl.NetCover(cover); !slices.Equal(again, cover) {
			t.Errorf("NetCover(%v) = %v", cover, again)
		}
		if len(list) > 0 && len(cover) == 0 {
			t.Errorf("NetCover(%v) is nothing", list)
		}
	}
}

// P2: a prefix once more changes nothing, if they are not too many; nor does another order.
func TestOnceMoreChangesNothing(t *testing.T) {
	d := dice(11)
	lists := manyLists()
	for i, list := range lists {
		other := lists[(i+3)%len(lists)]
		cover, without, taken := impl.NetCover(list), impl.NetWithout(list, other), impl.NetWithout(other, list)
		for n := range min(len(list), 5) {
			more := slices.Insert(slices.Clone(list), d.below(len(list)+1), list[d.below(len(list))])
			if n > 0 {
				d.shuffle(more)
			}
			if len(more) > 40 {
				if len(impl.NetCover(more)) != 0 || len(impl.NetWithout(more, other)) != 0 || len(impl.NetWithout(other, more)) != 0 {
					t.Errorf("%d prefixes told", len(more))
				}
				continue
			}
			if !slices.Equal(impl.NetCover(more), cover) || !slices.Equal(impl.NetWithout(more, other), without) || !slices.Equal(impl.NetWithout(other, more), taken) {
				t.Errorf("%v is not told as %v", more, list)
			}
		}
	}
}

// P2: NetWithout of a list and itself is nothing.
func TestWithoutItselfIsNothing(t *testing.T) {
	d := dice(12)
	for _, list := range manyLists() {
		out := slices.Clone(list)
		d.shuffle(out)
		if got := impl.NetWithout(list, list); len(got) != 0 {
			t.Errorf("NetWithout(%v, itself) = %v", list, got)
		}
		for _, out := range [][]impl.NetPrefix{out, impl.NetCover(list), {{}}} {
			if got := impl.NetWithout(list, out); len(got) != 0 {
				t.Errorf("NetWithout(%v, %v) = %v", list, out, got)
			}
		}
	}
}
