package tests

import (
	"runtime"
	"slices"
	"sync"
	"testing"
	"time"

	"loop.example/ternnet/impl"
)

// roomyRules is rules with spare room behind their end, and all of their memory.
func roomyRules(rules []impl.AclRule) (roomyList, memory []impl.AclRule) {
	mark := impl.AclRule{Permit: true, From: impl.NetPrefix{Addr: -77, Len: 77}, Kind: -7}
	memory = append(slices.Clone(rules), slices.Repeat([]impl.AclRule{mark}, 20)...)
	return memory[:len(rules)], memory
}

// scribbleRules writes over an answer, spare room included.
func scribbleRules(answer []impl.AclRule) {
	answer = answer[:cap(answer)]
	for i := range answer {
		answer[i] = impl.AclRule{From: impl.NetPrefix{Addr: -99, Len: 99}, Kind: 99}
	}
}

// aclAnswers is what the functions of access lists say of two lists.
type aclAnswers struct {
	ok, differs bool
	says        [3]int
	passes      [3]bool
	witnesses   [14]impl.AclPacket
	differ      impl.AclPacket
	lean        []impl.AclRule
}

func (a aclAnswers) equal(b aclAnswers) bool {
	return a.ok == b.ok && a.differs == b.differs && a.says == b.says && a.passes == b.passes && a.witnesses == b.witnesses && a.differ == b.differ && slices.Equal(a.lean, b.lean)
}

func answersOf(a, b []impl.AclRule) aclAnswers {
	var all aclAnswers
	all.ok = impl.AclOk(a)
	for i, p := range []impl.AclPacket{{Kind: 1}, {From: 65535, To: 65535, Kind: 7}, {From: 49152, To: 16384, Kind: 3}} {
		all.says[i], all.passes[i] = impl.AclSays(a, p)
	}
	for i := range all.witnesses {
		all.witnesses[i], _ = impl.AclWitness(a, i-1)
	}
	all.lean = impl.AclLean(a)
	all.differ, all.differs = impl.AclDiffer(a, b)
	return all
}

// aclsForMemory has lists that are wholly lean, whose answer might be a piece of them, and lists that are not ok.
func aclsForMemory() [][]impl.AclRule {
	all := impl.NetPrefix{}
	lists := append(manyAcls(), []impl.AclRule{{Permit: true}}, []impl.AclRule{{}, {}}, kindRules(true, all, all, 1, 7), kindRules(false, all, all, 0, 7))
	return append(lists, wrongRules()[:6]...)
}

func TestAclsShareNoMemory(t *testing.T) {
	lists := aclsForMemory()
	for i := range lists {
		a, memoryA := roomyRules(lists[i])
		b, memoryB := roomyRules(lists[(i+3)%len(lists)])
		wantA, wantB := slices.Clone(memoryA), slices.Clone(memoryB)
		check := func(what string) {
			t.Helper()
			if !slices.Equal(memoryA, wantA) || !slices.Equal(memoryB, wantB) {
				t.Fatalf("%s %v or %v", what, a, b)
			}
		}
		first, second := answersOf(a, b), answersOf(a, b)
		answersOf(b, a)
		check("written into")
		kept := slices.Clone(first.lean)
		scribbleRules(second.lean)
		check("an answer shares memory with")
		if !slices.Equal(first.lean, kept) {
			t.Fatalf("two answers of %v share memory", a)
		}
		scribbleRules(first.lean)
		check("an answer shares memory with")
		first.lean = kept
		if !answersOf(a, b).equal(first) {
			t.Fatalf("a later answer of %v and %v is another one", a, b)
		}
	}
}

// An answer of the lean list stays what it was when the list is written over.
func TestLeanKeepsNoRules(t *testing.T) {
	for _, rules := range manyAcls() {
		mine := slices.Clone(rules)
		lean := impl.AclLean(mine)
		want := slices.Clone(lean)
		scribbleRules(mine)
		if !slices.Equal(lean, want) {
			t.Fatalf("AclLean(%v) changed with the list", rules)
		}
	}
}

// One memory, filled with other rules for each call: nothing of the call ahead may be left.
func TestAclsKeepNothing(t *testing.T) {
	lists := aclsForMemory()
	var want []aclAnswers
	for i, rules := range lists {
		want = append(want, answersOf(slices.Clone(rules), slices.Clone(lists[(i+1)%len(lists)])))
	}
	memoryA, memoryB := make([]impl.AclRule, 20), make([]impl.AclRule, 20)
	for _, step := range []int{1, 5, 7, len(lists) - 1} {
		for i := range lists {
			at := i * step % len(lists)
			a := memoryA[:copy(memoryA, lists[at])]
			b := memoryB[:copy(memoryB, lists[(at+1)%len(lists)])]
			if got := answersOf(a, b); !got.equal(want[at]) {
				t.Fatalf("of %v: %v, not %v", lists[at], got, want[at])
			}
		}
	}
	// A list of as many rules in the same memory, but with one thing changed.
	rules := []impl.AclRule{{Permit: true, Kind: 2}, {Permit: true, Kind: 3}}
	p := impl.AclPacket{Kind: 2}
	if at, pass := impl.AclSays(rules, p); at != 0 || !pass {
		t.Errorf("AclSays = %d %v", at, pass)
	}
	rules[0].Permit = false
	if at, pass := impl.AclSays(rules, p); at != 0 || pass {
		t.Errorf("AclSays after Permit changed = %d %v", at, pass)
	}
	rules[0].Kind = 3
	if at, pass := impl.AclSays(rules, p); at != -1 || pass {
		t.Errorf("AclSays after Kind changed = %d %v", at, pass)
	}
	if lean := impl.AclLean(rules); !slices.Equal(lean, []impl.AclRule{{Kind: 3}}) {
		t.Errorf("AclLean after Kind changed = %v", lean)
	}
}

// However many goroutines may run at once, and however often they are asked, the order is that of the places.
func TestLeanHoweverGoroutinesRun(t *testing.T) {
	// Rules of very different numbers of packets to try, so that goroutines end in many orders.
	var late, early []impl.AclRule
	for i := range 12 {
		late = append(late, impl.AclRule{Permit: i%2 == 0, From: impl.NetPrefix{Addr: 65535 - i, Len: 16}, To: impl.NetPrefix{Addr: 65535 - i, Len: 16}})
		early = append(early, impl.AclRule{Permit: i%2 == 0, From: impl.NetPrefix{Len: 16 - i}, To: impl.NetPrefix{Len: 16 - i}})
	}
	mixed := slices.Concat(early[:5], early[:2], late[:5])
	wantMixed := slices.Concat(early[:5], late[:5])
	before := runtime.GOMAXPROCS(0)
	defer runtime.GOMAXPROCS(before)
	for _, procs := range []int{1, 2, 3, 8} {
		runtime.GOMAXPROCS(procs)
		for range 300 {
			if got := impl.AclLean(late); !slices.Equal(got, late) {
				t.Fatalf("AclLean(%v) = %v", late, got)
			}
			if got := impl.AclLean(early); !slices.Equal(got, early) {
				t.Fatalf("AclLean(%v) = %v", early, got)
			}
			if got := impl.AclLean(mixed); !slices.Equal(got, wantMixed) {
				t.Fatalf("AclLean(%v) = %v", mixed, got)
			}
		}
	}
}

// Calls at the same time, with the same arguments, do not meet in anything.
func TestAclsAtTheSameTime(t *testing.T) {
	lists := aclsForMemory()
	var want []aclAnswers
	for i, rules := range lists {
		want = append(want, answersOf(rules, lists[(i+1)%len(lists)]))
	}
	var callers sync.WaitGroup
	for caller := range 8 {
		callers.Go(func() {
			for i := range lists {
				at := (i + caller/2*11) % len(lists)
				if got := answersOf(lists[at], lists[(at+1)%len(lists)]); !got.equal(want[at]) {
					t.Errorf("of %v: %v, not %v", lists[at], got, want[at])
				}
			}
		})
	}
	callers.Wait()
}

// No goroutine is left behind; one that is just ending is given time to.
func TestAclsLeaveNoGoroutine(t *testing.T) {
	before := runtime.NumGoroutine()
	lists := aclsForMemory()
	for i, rules := range lists {
		answersOf(rules, lists[(i+1)%len(lists)])
	}
	for tries := 0; runtime.NumGoroutine() > before; tries++ {
		if tries == 1000 {
			t.Fatalf("%d goroutines, %d before", runtime.NumGoroutine(), before)
		}
		time.Sleep(time.Millisecond)
	}
}
