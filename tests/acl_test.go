package tests

import (
	"math"
	"slices"
	"strings"
	"testing"

	"loop.example/ternnet/impl"
)

// rulesOf reads rules with ";" between: "+" or "-", From, To, Kind. Wrong ones may stand there too.
func rulesOf(t *testing.T, text string) []impl.AclRule {
	t.Helper()
	var rules []impl.AclRule
	for _, one := range strings.Split(text, ";") {
		words := strings.Fields(one)
		if len(words) == 0 {
			continue
		}
		ends := prefixes(t, words[1]+" "+words[2])
		rules = append(rules, impl.AclRule{Permit: words[0] == "+", From: ends[0], To: ends[1], Kind: int(words[3][0] - '0')})
	}
	return rules
}

// aboutOf is another way to say that a rule that is ok is about a packet that is ok.
func aboutOf(rule impl.AclRule, p impl.AclPacket) bool {
	return (rule.Kind == 0 || rule.Kind == p.Kind) && sameFirstBits(rule.From, p.From) && sameFirstBits(rule.To, p.To)
}

func deciderOf(rules []impl.AclRule, p impl.AclPacket) int {
	for at, rule := range rules {
		if aboutOf(rule, p) {
			return at
		}
	}
	return -1
}

func passesOf(rules []impl.AclRule, p impl.AclPacket) bool {
	at := deciderOf(rules, p)
	return at >= 0 && rules[at].Permit
}

// leaders is, of all addresses, the least of each kind that the prefixes tell apart: every address is tried.
func leaders(list []impl.NetPrefix) []int {
	var found []int
	seen := map[int]bool{}
	for addr := range 65536 {
		who := 0
		for i, p := range list {
			if sameFirstBits(p, addr) {
				who |= 1 << i
			}
		}
		if !seen[who] {
			seen[who] = true
			found = append(found, addr)
		}
	}
	return found
}

// leaderPackets is, ascending, packets among which is the least one of everything that the rules may tell apart.
func leaderPackets(rules []impl.AclRule) []impl.AclPacket {
	var froms, tos []impl.NetPrefix
	for _, rule := range rules {
		froms, tos = append(froms, rule.From), append(tos, rule.To)
	}
	var packets []impl.AclPacket
	fromLeaders, toLeaders := leaders(froms), leaders(tos)
	for _, from := range fromLeaders {
		for _, to := range toLeaders {
			for kind := 1; kind <= 7; kind++ {
				packets = append(packets, impl.AclPacket{From: from, To: to, Kind: kind})
			}
		}
	}
	return packets
}

// firstOf is the first packet of which something holds.
func firstOf(packets []impl.AclPacket, holds func(impl.AclPacket) bool) (impl.AclPacket, bool) {
	for _, p := range packets {
		if holds(p) {
			return p, true
		}
	}
	return impl.AclPacket{}, false
}

func checkSays(t *testing.T, rules []impl.AclRule, packets []impl.AclPacket) {
	t.Helper()
	for _, p := range packets {
		want := deciderOf(rules, p)
		if at, pass := impl.AclSays(rules, p); at != want || pass != passesOf(rules, p) {
			t.Fatalf("AclSays(%v, %v) = %d %v, not %d", rules, p, at, pass, want)
		}
	}
}

// checkWitness is the first sentence of promise 8; the packets are leaderPackets.
func checkWitness(t *testing.T, rules []impl.AclRule, packets []impl.AclPacket) {
	t.Helper()
	for at, rule := range rules {
		want, wantOk := firstOf(packets, func(p impl.AclPacket) bool { return deciderOf(rules, p) == at })
		got, ok := impl.AclWitness(rules, at)
		if got != want || ok != wantOk {
			t.Fatalf("AclWitness(%v, %d) = %v %v, not %v %v", rules, at, got, ok, want, wantOk)
		}
		if !ok {
			continue
		}
		if first, pass := impl.AclSays(rules, got); first != at || pass != rule.Permit {
			t.Fatalf("AclSays(%v, %v) = %d %v", rules, got, first, pass)
		}
	}
}

// checkLean is promise 6; the packets are leaderPackets.
func checkLean(t *testing.T, rules []impl.AclRule, packets []impl.AclPacket) []impl.AclRule {
	t.Helper()
	used := map[int]bool{}
	for _, p := range packets {
		used[deciderOf(rules, p)] = true
	}
	var want []impl.AclRule
	for at, rule := range rules {
		if used[at] {
			want = append(want, rule)
		}
	}
	lean := impl.AclLean(rules)
	if !slices.Equal(lean, want) {
		t.Fatalf("AclLean(%v) = %v, not %v", rules, lean, want)
	}
	if again := impl.AclLean(lean); !slices.Equal(again, lean) {
		t.Fatalf("AclLean(%v) = %v", lean, again)
	}
	for at := range lean {
		if p, ok := impl.AclWitness(lean, at); !ok || deciderOf(lean, p) != at {
			t.Fatalf("AclWitness(%v, %d) = %v %v", lean, at, p, ok)
		}
	}
	for _, p := range packets {
		if passesOf(lean, p) != passesOf(rules, p) {
			t.Fatalf("%v and %v differ of %v", rules, lean, p)
		}
	}
	checkSame(t, rules, lean)
	return lean
}

func checkSame(t *testing.T, a, b []impl.AclRule) {
	t.Helper()
	p, ok := impl.AclDiffer(a, b)
	q, back := impl.AclDiffer(b, a)
	if ok || back || p != (impl.AclPacket{}) || q != (impl.AclPacket{}) {
		t.Fatalf("AclDiffer(%v, %v) = %v %v, back %v %v", a, b, p, ok, q, back)
	}
}

// checkDiffer is the second sentence of promise 8.
func checkDiffer(t *testing.T, a, b []impl.AclRule) (impl.AclPacket, bool) {
	t.Helper()
	packets := leaderPackets(slices.Concat(a, b))
	want, wantOk := firstOf(packets, func(p impl.AclPacket) bool { return passesOf(a, p) != passesOf(b, p) })
	got, ok := impl.AclDiffer(a, b)
	back, backOk := impl.AclDiffer(b, a)
	if got != want || ok != wantOk || back != want || backOk != wantOk {
		t.Fatalf("AclDiffer(%v, %v) = %v %v, back %v %v, not %v %v", a, b, got, ok, back, backOk, want, wantOk)
	}
	_, passA := impl.AclSays(a, got)
	_, passB := impl.AclSays(b, got)
	if ok && passA == passB {
		t.Fatalf("%v and %v say the same of %v", a, b, got)
	}
	return got, ok
}

func checkRules(t *testing.T, rules []impl.AclRule) []impl.AclRule {
	t.Helper()
	if !impl.AclOk(rules) {
		t.Fatalf("%v is not ok", rules)
	}
	packets := leaderPackets(rules)
	checkSays(t, rules, packets)
	checkWitness(t, rules, packets)
	checkSame(t, rules, rules)
	return checkLean(t, rules, packets)
}

// acl is n rules whose prefixes lie within one, in From and in To, at most so many bits longer.
func (d *dice) acl(whole impl.NetPrefix, longer int, n int) []impl.AclRule {
	var rules []impl.AclRule
	for range n {
		kind := d.below(8)
		if d.below(3) == 0 {
			kind = 0
		}
		rules = append(rules, impl.AclRule{Permit: d.below(2) == 1, From: d.prefixIn(whole, longer), To: d.prefixIn(whole, longer), Kind: kind})
	}
	return rules
}

// manyAcls is rules that are ok, of all sizes up to 12: wide ones, near ones that hide one another, and such at both ends.
func manyAcls() [][]impl.AclRule {
	d := dice(31)
	all, low, high := impl.NetPrefix{}, impl.NetPrefix{Addr: 0, Len: 14}, impl.NetPrefix{Addr: 65532, Len: 14}
	lists := [][]impl.AclRule{nil, {}}
	for n := 1; n <= 12; n++ {
		twice := append(d.acl(all, 3, (n+1)/2), d.acl(all, 3, (n+1)/2)...)[:n]
		copy(twice[(n+1)/2:], twice)
		lists = append(lists,
			d.acl(all, 16, n), d.acl(all, 2, n), d.acl(all, 1, n),
			d.acl(low, 2, n), d.acl(high, 2, n), d.acl(high, 1, n),
			twice, append(d.acl(all, 4, n-1), impl.AclRule{Permit: n%2 == 0}))
	}
	return lists
}

// kindRules is a rule for each kind from one to another.
func kindRules(permit bool, from, to impl.NetPrefix, first, last int) []impl.AclRule {
	var rules []impl.AclRule
	for kind := first; kind <= last; kind++ {
		rules = append(rules, impl.AclRule{Permit: permit, From: from, To: to, Kind: kind})
	}
	return rules
}

// wrongRules is lists of rules that are not ok, each for one reason.
func wrongRules() [][]impl.AclRule {
	right := []impl.AclRule{{Permit: true, From: impl.NetPrefix{Addr: 256, Len: 8}}, {Permit: true, Kind: 7}}
	var bad []impl.AclRule
	for _, wrong := range wrongPrefixes() {
		bad = append(bad, impl.AclRule{Permit: true, From: wrong}, impl.AclRule{Permit: true, To: wrong}, impl.AclRule{From: wrong, To: wrong, Kind: 7})
	}
	for _, kind := range []int{-1, -7, 8, 9, 255, 256, 1 << 32, math.MinInt, math.MaxInt} {
		bad = append(bad, impl.AclRule{Permit: true, Kind: kind}, impl.AclRule{Kind: kind})
	}
	var lists [][]impl.AclRule
	for i, rule := range bad {
		lists = append(lists, []impl.AclRule{rule}, slices.Insert(slices.Clone(right), i%3, rule))
		full := make([]impl.AclRule, 12)
		full[11-i%12] = rule
		lists = append(lists, full)
	}
	for _, n := range []int{13, 14, 24, 100, 1000} {
		lists = append(lists, slices.Repeat(right[:1], n), make([]impl.AclRule, n))
	}
	return lists
}

func wrongPackets() []impl.AclPacket {
	var wrong []impl.AclPacket
	for _, addr := range []int{-1, -65536, 65536, 65537, 131071, 1 << 32, math.MinInt, math.MaxInt} {
		wrong = append(wrong, impl.AclPacket{From: addr, To: 0, Kind: 1}, impl.AclPacket{From: 65535, To: addr, Kind: 7}, impl.AclPacket{From: addr, To: addr, Kind: 1})
	}
	for _, kind := range []int{0, -1, 8, 9, 256, 257, 1 << 32, math.MinInt, math.MaxInt} {
		wrong = append(wrong, impl.AclPacket{Kind: kind}, impl.AclPacket{From: 65535, To: 65535, Kind: kind})
	}
	return wrong
}

func TestAclOk(t *testing.T) {
	if !impl.AclOk(nil) || !impl.AclOk([]impl.AclRule{}) {
		t.Error("no rules are not ok")
	}
	for n := range 13 {
		if !impl.AclOk(make([]impl.AclRule, n, 40)) {
			t.Errorf("%d rules are not ok", n)
		}
	}
	for kind := 0; kind <= 7; kind++ {
		for _, p := range somePrefixes() {
			if !impl.AclOk([]impl.AclRule{{}, {From: p, Kind: kind}, {To: p, Kind: kind}, {Permit: true, From: p, To: p, Kind: kind}}) {
				t.Errorf("%v of the kind %d is not ok", p, kind)
			}
		}
	}
	for _, rules := range wrongRules() {
		if impl.AclOk(rules) {
			t.Errorf("AclOk(%v)", rules)
		}
	}
}

// P7: ordinary packets, both ends of the addresses, and no rule.
func TestSaysWritten(t *testing.T) {
	const ends = "+ 0.0/16 0.0/0 0; - 255.255/16 0.0/0 0; + 0.0/0 255.255/16 2; - 0.0/0 0.0/16 0; + 128.0/1 128.0/1 0"
	for _, c := range []struct {
		rules string
		p     impl.AclPacket
		at    int
		pass  bool
	}{
		{"", impl.AclPacket{From: 0, To: 0, Kind: 1}, -1, false},
		{"+ 0.0/0 0.0/0 0", impl.AclPacket{From: 0, To: 0, Kind: 1}, 0, true},
		{"+ 0.0/0 0.0/0 0", impl.AclPacket{From: 65535, To: 65535, Kind: 7}, 0, true},
		{"- 0.0/0 0.0/0 0", impl.AclPacket{From: 65535, To: 0, Kind: 7}, 0, false},
		{"+ 0.0/0 0.0/0 3", impl.AclPacket{From: 1, To: 2, Kind: 3}, 0, true},
		{"+ 0.0/0 0.0/0 3", impl.AclPacket{From: 1, To: 2, Kind: 2}, -1, false},
		{"- 1.0/8 2.0/8 0; + 1.0/8 2.0/8 0", impl.AclPacket{From: 256, To: 512, Kind: 1}, 0, false},
		{"+ 1.0/8 2.0/8 0; - 1.0/8 2.0/8 0", impl.AclPacket{From: 511, To: 767, Kind: 7}, 0, true},
		{"+ 1.0/8 2.0/8 0; - 0.0/0 0.0/0 0", impl.AclPacket{From: 512, To: 512, Kind: 7}, 1, false},
		{"- 1.0/8 2.0/8 0; + 0.0/0 0.0/0 0", impl.AclPacket{From: 256, To: 511, Kind: 7}, 1, true},
		{"- 1.0/8 2.0/8 5; + 1.7/16 2.0/8 0", impl.AclPacket{From: 263, To: 600, Kind: 5}, 0, false},
		{"- 1.0/8 2.0/8 5; + 1.7/16 2.0/8 0", impl.AclPacket{From: 263, To: 600, Kind: 4}, 1, true},
		{"- 1.0/8 2.0/8 5; + 1.7/16 2.0/8 0", impl.AclPacket{From: 264, To: 600, Kind: 4}, -1, false},
		{"+ 1.0/8 2.0/8 0", impl.AclPacket{From: 512, To: 256, Kind: 1}, -1, false},
		{ends, impl.AclPacket{From: 0, To: 65535, Kind: 1}, 0, true},
		{ends, impl.AclPacket{From: 65535, To: 65535, Kind: 2}, 1, false},
		{ends, impl.AclPacket{From: 65535, To: 0, Kind: 7}, 1, false},
		{ends, impl.AclPacket{From: 65534, To: 65535, Kind: 2}, 2, true},
		{ends, impl.AclPacket{From: 65534, To: 65535, Kind: 3}, 4, true},
		{ends, impl.AclPacket{From: 65534, To: 0, Kind: 3}, 3, false},
		{ends, impl.AclPacket{From: 1, To: 0, Kind: 2}, 3, false},
		{ends, impl.AclPacket{From: 1, To: 65535, Kind: 2}, 2, true},
		{ends, impl.AclPacket{From: 1, To: 65534, Kind: 2}, -1, false},
	} {
		rules := rulesOf(t, c.rules)
		if at, pass := impl.AclSays(rules, c.p); at != c.at || pass != c.pass {
			t.Errorf("AclSays(%s, %v) = %d %v, not %d %v", c.rules, c.p, at, pass, c.at, c.pass)
		}
	}
}

// P7: each kind of packets, by rules of each kind.
func TestSaysOfEachKind(t *testing.T) {
	all := impl.NetPrefix{}
	for kind := 1; kind <= 7; kind++ {
		p := impl.AclPacket{From: 65535, To: 0, Kind: kind}
		for ruleKind := 0; ruleKind <= 7; ruleKind++ {
			rules := kindRules(true, all, all, ruleKind, ruleKind)
			about := ruleKind == 0 || ruleKind == kind
			if at, pass := impl.AclSays(rules, p); (at == 0) != about || pass != about {
				t.Errorf("a rule of the kind %d, a packet of the kind %d: %d %v", ruleKind, kind, at, pass)
			}
		}
		if at, _ := impl.AclSays(kindRules(true, all, all, 0, 7), p); at != 0 {
			t.Errorf("kind %d: the rule %d, ahead of which one is about all kinds", kind, at)
		}
		behind := append(kindRules(true, all, all, 1, 7), impl.AclRule{})
		if at, pass := impl.AclSays(behind, p); at != kind-1 || !pass {
			t.Errorf("kind %d: the rule %d, %v", kind, at, pass)
		}
	}
}

// P7: all addresses, in From and in To.
func TestSaysAtEveryAddress(t *testing.T) {
	rules := rulesOf(t, "- 0.0/16 0.0/0 0; + 255.255/16 255.255/16 0; - 1.0/8 0.0/1 2; + 1.0/9 2.0/8 0; - 128.0/1 128.0/2 7; + 192.0/2 192.0/2 0; + 0.0/0 0.0/0 4")
	for addr := range 65536 {
		kind := 1 + addr%7
		packets := []impl.AclPacket{{From: addr, To: 65535, Kind: 2}, {From: addr, To: 512, Kind: kind}, {From: 256, To: addr, Kind: kind}, {From: 65535, To: addr, Kind: 7}, {From: addr, To: addr, Kind: 1}}
		checkSays(t, rules, packets)
	}
}

func TestSaysOfWrongPackets(t *testing.T) {
	for _, rules := range [][]impl.AclRule{nil, {{Permit: true}}, {{}}, kindRules(true, impl.NetPrefix{}, impl.NetPrefix{}, 0, 7)} {
		for _, p := range wrongPackets() {
			if at, pass := impl.AclSays(rules, p); at != -1 || pass {
				t.Errorf("AclSays(%v, %v) = %d %v", rules, p, at, pass)
			}
		}
	}
}

// Rules that are not ok have one fixed answer each, whatever else is asked with them.
func TestWrongRules(t *testing.T) {
	none := impl.AclPacket{}
	right := []impl.AclRule{{Permit: true}}
	for _, rules := range wrongRules() {
		for _, p := range append(wrongPackets(), impl.AclPacket{Kind: 1}, impl.AclPacket{From: 256, To: 65535, Kind: 7}) {
			if at, pass := impl.AclSays(rules, p); at != -1 || pass {
				t.Fatalf("AclSays(%v, %v) = %d %v", rules, p, at, pass)
			}
		}
		for at := -1; at <= len(rules); at++ {
			if p, ok := impl.AclWitness(rules, at); ok || p != none {
				t.Fatalf("AclWitness(%v, %d) = %v %v", rules, at, p, ok)
			}
		}
		if lean := impl.AclLean(rules); len(lean) != 0 {
			t.Fatalf("AclLean(%v) = %v", rules, lean)
		}
		for _, other := range [][]impl.AclRule{nil, {}, right, make([]impl.AclRule, 12), rules} {
			checkSame(t, rules, other)
		}
	}
}

// P6, P8: the least packet of each rule, "none" where it decides of nothing; the lean list is the others.
func TestWitnessWritten(t *testing.T) {
	type packets []impl.AclPacket
	none := impl.AclPacket{}
	for _, c := range []struct {
		name, rules string
		want        packets
	}{
		{"no rule", "", packets{}},
		{"all", "+ 0.0/0 0.0/0 0", packets{{From: 0, To: 0, Kind: 1}}},
		{"a kind", "+ 0.0/0 0.0/0 7", packets{{From: 0, To: 0, Kind: 7}}},
		{"the last address in From", "+ 255.255/16 0.0/0 0", packets{{From: 65535, To: 0, Kind: 1}}},
		{"the last address in To", "+ 0.0/0 255.255/16 0", packets{{From: 0, To: 65535, Kind: 1}}},
		{"the last of all", "- 255.255/16 255.255/16 7", packets{{From: 65535, To: 65535, Kind: 7}}},
		{"only the last address is left in From", "+ 255.248/14 0.0/0 0; - 255.252/15 0.0/0 0; + 255.254/16 0.0/0 0; + 255.248/13 0.0/0 0", packets{{From: 65528, To: 0, Kind: 1}, {From: 65532, To: 0, Kind: 1}, {From: 65534, To: 0, Kind: 1}, {From: 65535, To: 0, Kind: 1}}},
		{"only the last address is left in To", "+ 0.0/0 255.248/14 0; - 0.0/0 255.252/15 0; + 0.0/0 255.254/16 0; + 0.0/0 255.248/13 0", packets{{From: 0, To: 65528, Kind: 1}, {From: 0, To: 65532, Kind: 1}, {From: 0, To: 65534, Kind: 1}, {From: 0, To: 65535, Kind: 1}}},
		{"what kinds leave at the end", "+ 0.0/1 0.0/0 0; + 128.0/1 0.0/0 1; - 128.0/2 0.0/0 0; + 0.0/0 0.0/0 0", packets{{From: 0, To: 0, Kind: 1}, {From: 32768, To: 0, Kind: 1}, {From: 32768, To: 0, Kind: 2}, {From: 49152, To: 0, Kind: 2}}},
		{"the last two addresses, one each", "- 255.254/16 0.0/0 0; + 255.254/15 0.0/0 0", packets{{From: 65534, To: 0, Kind: 1}, {From: 65535, To: 0, Kind: 1}}},
		{"the same in To", "- 0.0/0 255.254/16 0; + 0.0/0 255.254/15 0", packets{{From: 0, To: 65534, Kind: 1}, {From: 0, To: 65535, Kind: 1}}},
		{"the last address is taken", "- 255.255/16 0.0/0 0; + 255.254/15 0.0/0 0; + 255.255/16 255.255/16 7", packets{{From: 65535, To: 0, Kind: 1}, {From: 65534, To: 0, Kind: 1}, none}},
		{"twice", "+ 1.0/8 2.0/8 3; + 1.0/8 2.0/8 3", packets{{From: 256, To: 512, Kind: 3}, none}},
		{"twice, another Permit", "+ 1.0/8 2.0/8 3; - 1.0/8 2.0/8 3", packets{{From: 256, To: 512, Kind: 3}, none}},
		{"in a wider one", "- 0.0/0 0.0/0 0; + 1.0/8 2.0/8 0; + 0.0/0 0.0/0 7", packets{{From: 0, To: 0, Kind: 1}, none, none}},
		{"in a wider one of another kind", "- 0.0/0 0.0/0 2; + 1.0/8 2.0/8 3", packets{{From: 0, To: 0, Kind: 2}, {From: 256, To: 512, Kind: 3}}},
		{"around a narrower one", "- 1.0/16 2.0/16 0; + 1.0/8 2.0/8 0", packets{{From: 256, To: 512, Kind: 1}, {From: 256, To: 513, Kind: 1}}},
		{"one in another in another", "+ 1.0/16 0.0/0 0; - 1.0/12 0.0/0 0; + 1.0/8 0.0/0 0; - 0.0/0 0.0/0 0", packets{{From: 256, To: 0, Kind: 1}, {From: 257, To: 0, Kind: 1}, {From: 272, To: 0, Kind: 1}, {From: 0, To: 0, Kind: 1}}},
		{"hidden by two halves", "+ 1.0/9 0.0/0 0; - 1.128/9 0.0/0 0; + 1.0/8 3.0/8 4", packets{{From: 256, To: 0, Kind: 1}, {From: 384, To: 0, Kind: 1}, none}},
		{"hidden by two halves of To", "+ 0.0/0 1.0/9 0; - 0.0/0 1.128/9 0; + 5.0/8 1.0/8 4", packets{{From: 0, To: 256, Kind: 1}, {From: 0, To: 384, Kind: 1}, none}},
		{"hidden by four quarters", "+ 0.0/1 0.0/1 0; + 0.0/1 128.0/1 0; - 128.0/1 0.0/1 0; - 128.0/1 128.0/1 0; + 0.0/0 0.0/0 0", packets{{From: 0, To: 0, Kind: 1}, {From: 0, To: 32768, Kind: 1}, {From: 32768, To: 0, Kind: 1}, {From: 32768, To: 32768, Kind: 1}, none}},
		{"one quarter is not hidden", "+ 0.0/1 0.0/1 0; + 0.0/1 128.0/1 0; - 128.0/1 0.0/1 0; + 0.0/0 0.0/0 0", packets{{From: 0, To: 0, Kind: 1}, {From: 0, To: 32768, Kind: 1}, {From: 32768, To: 0, Kind: 1}, {From: 32768, To: 32768, Kind: 1}}},
		{"hidden by halves that lie crosswise", "+ 0.0/1 0.0/0 0; + 128.0/1 0.0/1 0; - 0.0/0 128.0/1 0; + 0.0/0 0.0/0 0", packets{{From: 0, To: 0, Kind: 1}, {From: 32768, To: 0, Kind: 1}, {From: 32768, To: 32768, Kind: 1}, none}},
		{"hidden kind by kind", "+ 1.0/8 0.0/0 1; + 1.0/8 0.0/0 2; - 1.0/8 0.0/0 3; + 1.0/8 0.0/0 4; - 1.0/8 0.0/0 5; + 1.0/8 0.0/0 6; - 1.0/8 0.0/0 7; + 1.0/8 0.0/0 0; - 0.0/0 0.0/0 0",
			packets{{From: 256, To: 0, Kind: 1}, {From: 256, To: 0, Kind: 2}, {From: 256, To: 0, Kind: 3}, {From: 256, To: 0, Kind: 4}, {From: 256, To: 0, Kind: 5}, {From: 256, To: 0, Kind: 6}, {From: 256, To: 0, Kind: 7}, none, {From: 0, To: 0, Kind: 1}}},
		{"hidden but for the last kind", "+ 0.0/0 0.0/0 6; + 0.0/0 0.0/0 5; + 0.0/0 0.0/0 4; + 0.0/0 0.0/0 3; + 0.0/0 0.0/0 2; + 0.0/0 0.0/0 1; - 0.0/0 0.0/0 0",
			packets{{Kind: 6}, {Kind: 5}, {Kind: 4}, {Kind: 3}, {Kind: 2}, {Kind: 1}, {Kind: 7}}},
		{"hidden but for a kind in the middle", "+ 0.0/0 0.0/0 7; + 0.0/0 0.0/0 6; + 0.0/0 0.0/0 5; + 0.0/0 0.0/0 3; + 0.0/0 0.0/0 2; + 0.0/0 0.0/0 1; - 0.0/0 0.0/0 0; + 0.0/0 0.0/0 4",
			packets{{Kind: 7}, {Kind: 6}, {Kind: 5}, {Kind: 3}, {Kind: 2}, {Kind: 1}, {Kind: 4}, none}},
		{"a kind that no rule names", "+ 0.0/0 0.0/0 1; - 0.0/0 0.0/0 2; + 0.0/0 0.0/0 0", packets{{Kind: 1}, {Kind: 2}, {Kind: 3}}},
		{"From before To before Kind", "- 0.0/0 0.0/0 1; - 0.0/0 0.0/1 0; - 0.0/1 0.0/0 2; + 0.0/0 0.0/0 0", packets{{Kind: 1}, {Kind: 2}, {To: 32768, Kind: 2}, {To: 32768, Kind: 3}}},
		{"a lesser To, a greater From", "- 0.0/1 0.0/1 0; + 0.0/0 0.0/0 0", packets{{Kind: 1}, {To: 32768, Kind: 1}}},
		{"a rule behind hides nothing", "+ 1.0/8 2.0/8 0; - 0.0/0 0.0/0 0; + 1.0/16 2.0/16 0", packets{{From: 256, To: 512, Kind: 1}, {Kind: 1}, none}},
	} {
		t.Run(c.name, func(t *testing.T) {
			rules := rulesOf(t, c.rules)
			var lean []impl.AclRule
			for at, want := range c.want {
				if got, ok := impl.AclWitness(rules, at); got != want || ok != (want != none) {
					t.Errorf("AclWitness at %d = %v %v, not %v", at, got, ok, want)
				}
				if want != none {
					lean = append(lean, rules[at])
				}
			}
			if got := checkRules(t, rules); len(c.want) != len(rules) || !slices.Equal(got, lean) {
				t.Errorf("AclLean = %v, not %v", got, lean)
			}
		})
	}
}

func TestWitnessOfNoPlace(t *testing.T) {
	for _, rules := range append(manyAcls(), make([]impl.AclRule, 12, 40)) {
		for _, at := range []int{-1, -2, -12, -13, math.MinInt, len(rules), len(rules) + 1, 12, 13, 1 << 32, math.MaxInt} {
			if p, ok := impl.AclWitness(rules, at); ok || p != (impl.AclPacket{}) {
				t.Errorf("AclWitness(%v, %d) = %v %v", rules, at, p, ok)
			}
		}
	}
}

// P6 to P8: lists of all sizes, against a reckoning that tries every address.
func TestManyAcls(t *testing.T) {
	hidden := 0
	for _, rules := range manyAcls() {
		hidden += len(rules) - len(checkRules(t, rules))
	}
	if hidden < 50 {
		t.Errorf("only %d rules are hidden: the lists try too little", hidden)
	}
}

// P6 to P8: every two rules of two addresses, at both ends, of kinds at both ends.
func TestEveryTwoRules(t *testing.T) {
	for _, ends := range []string{"0.0/0 255.254/15 255.254/16 255.255/16", "0.0/0 0.0/15 0.0/16 0.1/16"} {
		world := prefixes(t, ends)
		var every []impl.AclRule
		var spread []impl.AclRule
		for _, from := range world {
			for _, to := range world {
				spread = append(spread, impl.AclRule{From: from, To: to})
				for _, kind := range []int{0, 1, 7} {
					every = append(every, impl.AclRule{Permit: true, From: from, To: to, Kind: kind}, impl.AclRule{From: from, To: to, Kind: kind})
				}
			}
		}
		packets := leaderPackets(spread)
		for _, first := range every {
			for _, second := range every {
				rules := []impl.AclRule{first, second}
				checkWitness(t, rules, packets)
				checkLean(t, rules, packets)
				a, b := rules[:1], rules[1:]
				want, wantOk := firstOf(packets, func(p impl.AclPacket) bool { return passesOf(a, p) != passesOf(b, p) })
				if got, ok := impl.AclDiffer(a, b); got != want || ok != wantOk {
					t.Fatalf("AclDiffer(%v, %v) = %v %v, not %v %v", a, b, got, ok, want, wantOk)
				}
			}
		}
	}
}

// P6: exactly as many rules as may be.
func TestLeanAtTheLimit(t *testing.T) {
	same := slices.Repeat([]impl.AclRule{{Permit: true, From: impl.NetPrefix{Addr: 256, Len: 8}}}, 12)
	if got := checkRules(t, same); !slices.Equal(got, same[:1]) {
		t.Errorf("the same rule 12 times: %v", got)
	}
	var apart, inside, around []impl.AclRule
	for i := range 12 {
		apart = append(apart, impl.AclRule{Permit: i%2 == 0, From: impl.NetPrefix{Addr: 60000 - i*5000, Len: 16}, To: impl.NetPrefix{Addr: 65535 - i*3, Len: 16}, Kind: i % 8})
		around = append(around, impl.AclRule{Permit: i%2 == 0, From: impl.NetPrefix{Len: 16 - i}, To: impl.NetPrefix{Len: 16 - i}})
		inside = append(inside, impl.AclRule{Permit: i%2 == 0, From: impl.NetPrefix{Len: i}, To: impl.NetPrefix{Len: i}})
	}
	if got := checkRules(t, apart); !slices.Equal(got, apart) {
		t.Errorf("12 rules apart: %v", got)
	}
	if got := checkRules(t, around); !slices.Equal(got, around) {
		t.Errorf("12 rules, one around another: %v", got)
	}
	if got := checkRules(t, inside); !slices.Equal(got, inside[:1]) {
		t.Errorf("12 rules, one in another: %v", got)
	}
	all := impl.NetPrefix{}
	byKind := append(kindRules(true, all, all, 1, 7), apart[:5]...)
	if got := checkRules(t, byKind); !slices.Equal(got, byKind[:7]) {
		t.Errorf("7 kinds and 5 rules behind them: %v", got)
	}
	lastOnly := append(slices.Clone(same[:11]), impl.AclRule{})
	if got := checkRules(t, lastOnly); !slices.Equal(got, []impl.AclRule{same[0], {}}) {
		t.Errorf("11 times the same rule and another one: %v", got)
	}
	for _, rules := range [][]impl.AclRule{same, apart, around, inside, byKind, lastOnly} {
		for _, more := range rules {
			if got := impl.AclLean(append(slices.Clone(rules), more)); len(got) != 0 {
				t.Errorf("AclLean of 13 rules: %v", got)
			}
		}
		checkDiffer(t, rules, apart)
		checkDiffer(t, rules, around)
	}
}

func TestLeanOfNothing(t *testing.T) {
	if len(impl.AclLean(nil)) != 0 || len(impl.AclLean([]impl.AclRule{})) != 0 || len(impl.AclLean(make([]impl.AclRule, 0, 12))) != 0 {
		t.Error("AclLean of no rules")
	}
}

// P6: the lean list says of packets at every address what the list says.
func TestLeanAtEveryAddress(t *testing.T) {
	d := dice(33)
	for _, rules := range [][]impl.AclRule{d.acl(impl.NetPrefix{}, 4, 12), d.acl(impl.NetPrefix{Addr: 65024, Len: 7}, 3, 12)} {
		lean := checkRules(t, rules)
		other := rules[d.below(len(rules))]
		for addr := range 65536 {
			for _, p := range []impl.AclPacket{{From: addr, To: other.To.Addr, Kind: 1 + addr%7}, {From: other.From.Addr, To: addr, Kind: 1 + addr%7}, {From: addr, To: addr ^ 511, Kind: 7}} {
				_, want := impl.AclSays(rules, p)
				if _, got := impl.AclSays(lean, p); got != want || got != passesOf(rules, p) {
					t.Fatalf("%v and %v differ of %v", rules, lean, p)
				}
			}
		}
	}
}

// P8: the least packet of which two lists say different things, "none" where they say the same of all.
func TestDifferWritten(t *testing.T) {
	none := impl.AclPacket{}
	for _, c := range []struct {
		name, a, b string
		want       impl.AclPacket
	}{
		{"nothing and nothing", "", "", none},
		{"nothing and what lets nothing through", "", "- 0.0/0 0.0/0 0; - 1.0/8 2.0/8 3", none},
		{"nothing and all", "", "+ 0.0/0 0.0/0 0", impl.AclPacket{Kind: 1}},
		{"nothing and the last kind", "", "+ 0.0/0 0.0/0 7", impl.AclPacket{Kind: 7}},
		{"nothing and the last packet", "", "+ 255.255/16 255.255/16 7", impl.AclPacket{From: 65535, To: 65535, Kind: 7}},
		{"the last address in From", "+ 255.254/15 0.0/0 0", "+ 255.254/16 0.0/0 0", impl.AclPacket{From: 65535, Kind: 1}},
		{"the last address in To", "+ 0.0/0 255.254/15 0", "+ 0.0/0 255.254/16 0", impl.AclPacket{To: 65535, Kind: 1}},
		{"the last address in both", "+ 255.254/15 255.254/15 0", "+ 255.254/16 255.254/15 0; + 255.255/16 255.254/16 0", impl.AclPacket{From: 65535, To: 65535, Kind: 1}},
		{"but for the last address in From", "+ 0.0/0 0.0/0 0", "- 255.255/16 0.0/0 0; + 0.0/0 0.0/0 0", impl.AclPacket{From: 65535, Kind: 1}},
		{"but for the last address in To", "+ 0.0/0 0.0/0 0", "- 0.0/0 255.255/16 0; + 0.0/0 0.0/0 0", impl.AclPacket{To: 65535, Kind: 1}},
		{"but for the last kind", "+ 0.0/0 0.0/0 0", "- 0.0/0 0.0/0 7; + 0.0/0 0.0/0 0", impl.AclPacket{Kind: 7}},
		{"a whole and its halves", "+ 1.0/8 0.0/0 0", "+ 1.128/9 0.0/0 0; + 1.0/9 0.0/0 0", none},
		{"a whole and one half", "+ 1.0/8 0.0/0 0", "+ 1.0/9 0.0/0 0", impl.AclPacket{From: 384, Kind: 1}},
		{"a whole and its quarters", "+ 0.0/0 0.0/0 3", "+ 0.0/1 0.0/1 3; + 128.0/1 0.0/1 3; + 0.0/1 128.0/1 3; + 128.0/1 128.0/1 3", none},
		{"a rule for all kinds and one for each", "+ 1.0/8 0.0/0 0", "+ 1.0/8 0.0/0 1; + 1.0/8 0.0/0 2; + 1.0/8 0.0/0 3; + 1.0/8 0.0/0 4; + 1.0/8 0.0/0 5; + 1.0/8 0.0/0 6; + 1.0/8 0.0/0 7", none},
		{"one for each but the last", "+ 1.0/8 0.0/0 0", "+ 1.0/8 0.0/0 1; + 1.0/8 0.0/0 2; + 1.0/8 0.0/0 3; + 1.0/8 0.0/0 4; + 1.0/8 0.0/0 5; + 1.0/8 0.0/0 6", impl.AclPacket{From: 256, Kind: 7}},
		{"kinds that no rule tells apart", "+ 0.0/0 0.0/0 1; + 0.0/0 0.0/0 2; - 0.0/0 0.0/0 0", "+ 0.0/0 0.0/0 2; + 0.0/0 0.0/0 1; + 0.0/0 0.0/0 0", impl.AclPacket{Kind: 3}},
		{"kinds that only one list tells apart", "- 0.0/0 0.0/0 4; + 0.0/0 0.0/0 0", "+ 0.0/0 0.0/0 0", impl.AclPacket{Kind: 4}},
		{"another order of rules apart", "+ 1.0/8 0.0/0 0; - 2.0/8 0.0/0 0", "- 2.0/8 0.0/0 0; + 1.0/8 0.0/0 0", none},
		{"another order of rules that meet", "+ 1.0/8 0.0/0 0; - 1.128/9 7.0/8 3", "- 1.128/9 7.0/8 3; + 1.0/8 0.0/0 0", impl.AclPacket{From: 384, To: 1792, Kind: 3}},
		{"another order of rules that meet and say the same", "+ 1.0/8 0.0/0 0; + 1.128/9 7.0/8 3", "+ 1.128/9 7.0/8 3; + 1.0/8 0.0/0 0", none},
		{"by another place, the same", "- 9.0/8 0.0/0 0; + 1.0/8 0.0/0 0", "+ 1.0/8 0.0/0 0", none},
		{"a hole, told twice", "- 1.0/16 0.0/0 0; + 1.0/15 0.0/0 0", "+ 1.1/16 0.0/0 0", none},
		{"From before To", "+ 2.0/8 1.0/8 0", "+ 1.0/8 2.0/8 0", impl.AclPacket{From: 256, To: 512, Kind: 1}},
		{"To before Kind", "+ 1.0/8 1.0/8 7", "+ 1.0/8 2.0/8 1", impl.AclPacket{From: 256, To: 256, Kind: 7}},
		{"only what both tell, together, apart", "+ 1.0/9 0.0/0 0; - 0.0/0 0.0/0 0", "+ 1.0/8 3.0/8 0; + 1.0/9 0.0/0 0", impl.AclPacket{From: 384, To: 768, Kind: 1}},
	} {
		t.Run(c.name, func(t *testing.T) {
			got, ok := checkDiffer(t, rulesOf(t, c.a), rulesOf(t, c.b))
			if got != c.want || ok != (c.want != none) {
				t.Errorf("AclDiffer(%s, %s) = %v %v, not %v", c.a, c.b, got, ok, c.want)
			}
		})
	}
}

// The empty list and the nil list are the same value.
func TestDifferOfEmptyAndNil(t *testing.T) {
	empties := [][]impl.AclRule{nil, {}, make([]impl.AclRule, 0, 12)}
	some := []impl.AclRule{{From: impl.NetPrefix{Addr: 65535, Len: 16}}, {Permit: true, To: impl.NetPrefix{Addr: 65535, Len: 16}, Kind: 7}}
	for _, empty := range empties {
		for _, other := range empties {
			checkSame(t, empty, other)
		}
		checkSame(t, empty, some[:1])
		if p, ok := checkDiffer(t, empty, some); !ok || p != (impl.AclPacket{From: 0, To: 65535, Kind: 7}) {
			t.Errorf("AclDiffer of no rules and %v: %v %v", some, p, ok)
		}
	}
}

// P8: lists of all sizes, each against others, and against itself with one rule changed or left out.
func TestDifferOfManyAcls(t *testing.T) {
	d := dice(34)
	lists := manyAcls()
	same := 0
	for i, a := range lists {
		for _, step := range []int{1, 8} {
			checkDiffer(t, a, lists[(i+step)%len(lists)])
		}
		if len(a) == 0 {
			continue
		}
		at := d.below(len(a))
		turned := slices.Clone(a)
		turned[at].Permit = !turned[at].Permit
		// A rule that decides of something says, turned, another thing of just that.
		want, wantOk := impl.AclWitness(a, at)
		if got, ok := checkDiffer(t, a, turned); got != want || ok != wantOk {
			t.Fatalf("AclDiffer(%v, %v) = %v %v, not %v %v", a, turned, got, ok, want, wantOk)
		}
		if _, ok := checkDiffer(t, a, slices.Delete(slices.Clone(a), at, at+1)); !ok {
			same++
		}
	}
	if same < 10 || same > len(lists)-10 {
		t.Errorf("%d of %d lists say the same without a rule: they try too little", same, len(lists))
	}
}

func FuzzAcls(f *testing.F) {
	f.Add(uint64(1), uint8(12), uint8(12), uint8(2), uint8(14))
	f.Add(uint64(2), uint8(3), uint8(0), uint8(16), uint8(0))
	f.Fuzz(func(t *testing.T, seed uint64, sizeA, sizeB, longer, length uint8) {
		d := dice(seed)
		whole := d.prefixIn(impl.NetPrefix{}, int(length%17))
		a, b := d.acl(whole, int(longer%17), int(sizeA%13)), d.acl(whole, int(longer%17), int(sizeB%13))
		checkRules(t, a)
		checkDiffer(t, a, b)
	})
}
