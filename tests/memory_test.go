package tests

import (
	"slices"
	"testing"

	"loop.example/ternnet/impl"
)

// roomy is a list with spare room behind its end, and all of its memory.
func roomy(list []impl.NetPrefix) (roomyList, memory []impl.NetPrefix) {
	memory = append(slices.Clone(list), prefixMarks()...)
	return memory[:len(list)], memory
}

// prefixMarks are values that no answer has.
func prefixMarks() []impl.NetPrefix {
	return slices.Repeat([]impl.NetPrefix{{Addr: -77, Len: 77}}, 60)
}

// scribble writes over an answer, spare room included.
func scribble(answer []impl.NetPrefix) {
	answer = answer[:cap(answer)]
	for i := range answer {
		answer[i] = impl.NetPrefix{Addr: -99, Len: 99}
	}
}

// Lists whose answer might be a piece of them, if it were not copied, are among these.
func TestSetsShareNoMemory(t *testing.T) {
	lists := append(manyLists(), prefixes(t, "1.0/8"), prefixes(t, "1.0/8 3.0/8 200.0/16"), prefixes(t, "1.0/9 1.128/9"), prefixes(t, "1.1/8"), make([]impl.NetPrefix, 41))
	for i := range lists {
		list, listMemory := roomy(lists[i])
		out, outMemory := roomy(lists[(i+2)%len(lists)])
		wantList, wantOut := slices.Clone(listMemory), slices.Clone(outMemory)
		answers := [][]impl.NetPrefix{
			impl.NetCover(list), impl.NetWithout(list, nil), impl.NetWithout(list, list[len(list):]),
			impl.NetWithout(list, out), impl.NetWithout(out, list), impl.NetCover(out), impl.NetWithout(list, list),
		}
		impl.NetBest(list, 256)
		if !slices.Equal(listMemory, wantList) || !slices.Equal(outMemory, wantOut) {
			t.Fatalf("written into %v or %v", list, out)
		}
		kept := make([][]impl.NetPrefix, len(answers))
		for j := range answers {
			kept[j] = slices.Clone(answers[j])
		}
		for j := range answers {
			if !slices.Equal(answers[j], kept[j]) {
				t.Fatalf("the answers of %v and %v share memory", list, out)
			}
			scribble(answers[j])
		}
		if !slices.Equal(listMemory, wantList) || !slices.Equal(outMemory, wantOut) {
			t.Fatalf("an answer shares memory with %v or %v", list, out)
		}
		if !slices.Equal(impl.NetCover(list), kept[0]) || !slices.Equal(impl.NetWithout(list, out), kept[3]) {
			t.Fatalf("a later answer of %v and %v is another one", list, out)
		}
	}
}

// A list that is changed after the call changes no answer that is told.
func TestSetsKeepNoList(t *testing.T) {
	for _, list := range manyLists() {
		mine := slices.Clone(list)
		answer := impl.NetCover(mine)
		want := slices.Clone(answer)
		scribble(mine)
		if !slices.Equal(answer, want) {
			t.Fatalf("NetCover(%v) changed with the list", list)
		}
	}
}

// Calls at the same time do not meet in anything.
func TestSetsAtTheSameTime(t *testing.T) {
	lists := manyLists()
	want := make([][]impl.NetPrefix, len(lists))
	for i, list := range lists {
		want[i] = impl.NetWithout(list, lists[(i+1)%len(lists)])
	}
	done := make(chan int)
	for range 4 {
		go func() {
			wrong := 0
			for i, list := range lists {
				if !slices.Equal(impl.NetWithout(list, lists[(i+1)%len(lists)]), want[i]) {
					wrong++
				}
			}
			done <- wrong
		}()
	}
	for range 4 {
		if wrong := <-done; wrong > 0 {
			t.Errorf("%d answers are other ones", wrong)
		}
	}
}
