package tests

import (
	"fmt"
	"math"
	"strings"
	"testing"

	"loop.example/ternnet/impl"
)

// addrTexts is every text of an address, and of which, made without the program.
func addrTexts() map[string]int {
	texts := map[string]int{}
	for first := 0; first <= 255; first++ {
		for second := 0; second <= 255; second++ {
			texts[fmt.Sprintf("%d.%d", first, second)] = first*256 + second
		}
	}
	return texts
}

// prefixTexts is every text of a prefix, and of which, made without the program.
func prefixTexts() map[string]impl.NetPrefix {
	texts := map[string]impl.NetPrefix{}
	for _, p := range everyPrefix() {
		texts[fmt.Sprintf("%d.%d/%d", p.Addr>>8, p.Addr&255, p.Len)] = p
	}
	return texts
}

// reading holds what is read of a text against all texts that are written.
type reading struct {
	addrs    map[string]int
	prefixes map[string]impl.NetPrefix
}

func newReading() reading {
	return reading{addrs: addrTexts(), prefixes: prefixTexts()}
}

func (r reading) check(t *testing.T, text string) {
	t.Helper()
	addr, isAddr := r.addrs[text]
	if !isAddr {
		addr = -1
	}
	if got := impl.NetAddr(text); got != addr {
		t.Errorf("NetAddr(%q) = %d, not %d", text, got, addr)
	}
	p, isPrefix := r.prefixes[text]
	if got, ok := impl.NetParse(text); got != p || ok != isPrefix {
		t.Errorf("NetParse(%q) = %v %v, not %v %v", text, got, ok, p, isPrefix)
	}
}

// P4, of every address: written, read again, written so.
func TestEveryAddressText(t *testing.T) {
	texts := addrTexts()
	if len(texts) != 65536 {
		t.Fatalf("%d texts", len(texts))
	}
	for text, addr := range texts {
		if got := impl.NetAddrText(addr); got != text {
			t.Fatalf("NetAddrText(%d) = %q", addr, got)
		}
		if got := impl.NetAddr(text); got != addr {
			t.Fatalf("NetAddr(%q) = %d", text, got)
		}
	}
}

// P4, of every prefix: written, read again, written so.
func TestEveryPrefixText(t *testing.T) {
	texts := prefixTexts()
	if len(texts) != 131071 {
		t.Fatalf("%d texts", len(texts))
	}
	for text, p := range texts {
		if got := impl.NetText(p); got != text {
			t.Fatalf("NetText(%v) = %q", p, got)
		}
		if got, ok := impl.NetParse(text); !ok || got != p {
			t.Fatalf("NetParse(%q) = %v %v", text, got, ok)
		}
	}
}

func TestTextsWritten(t *testing.T) {
	for _, c := range []struct {
		addr int
		text string
	}{{0, "0.0"}, {1, "0.1"}, {255, "0.255"}, {256, "1.0"}, {258, "1.2"}, {2570, "10.10"}, {65535, "255.255"}} {
		if got := impl.NetAddrText(c.addr); got != c.text || impl.NetAddr(c.text) != c.addr {
			t.Errorf("%d and %q: %q, %d", c.addr, c.text, got, impl.NetAddr(c.text))
		}
	}
	for _, c := range []struct {
		p    impl.NetPrefix
		text string
	}{
		{impl.NetPrefix{}, "0.0/0"}, {impl.NetPrefix{Addr: 32768, Len: 1}, "128.0/1"}, {impl.NetPrefix{Addr: 256, Len: 8}, "1.0/8"},
		{impl.NetPrefix{Addr: 0, Len: 16}, "0.0/16"}, {impl.NetPrefix{Addr: 65535, Len: 16}, "255.255/16"}, {impl.NetPrefix{Addr: 2560, Len: 10}, "10.0/10"},
	} {
		got, ok := impl.NetParse(c.text)
		if impl.NetText(c.p) != c.text || !ok || got != c.p {
			t.Errorf("%v and %q: %q, %v %v", c.p, c.text, impl.NetText(c.p), got, ok)
		}
	}
}

func TestTextsOfWhatIsNone(t *testing.T) {
	for _, addr := range []int{-1, -256, -65536, 65536, 65537, 1 << 32, math.MinInt, math.MaxInt} {
		if got := impl.NetAddrText(addr); got != "" {
			t.Errorf("NetAddrText(%d) = %q", addr, got)
		}
	}
	for _, p := range wrongPrefixes() {
		if got := impl.NetText(p); got != "" {
			t.Errorf("NetText(%v) = %q", p, got)
		}
	}
}

// Wrong addresses; each of them with a length behind is a wrong prefix too.
func TestWrongAddressTexts(t *testing.T) {
	for _, text := range []string{
		"", ".", "..", "1", "1.", ".1", "0", "1..2", ".1.2", "1.2.", "1.2.3", "1.2.3.4", "1,2", "1:2", "1/2",
		"00.0", "0.00", "01.0", "0.01", "001.2", "1.002", "00.00", "0255.0", "1.00",
		"256.0", "0.256", "256.256", "999.0", "1000.0", "0.1000", "0.65535", "65535", "258",
		"4294967296.0", "4294967297.1", "18446744073709551616.0", "0.18446744073709551617", "9223372036854775808.1",
		"+1.0", "1.+0", "-1.0", "1.-0", "-0.0", "+0.+0",
		" 1.0", "1.0 ", "1 .0", "1. 0", "\t1.0", "1.0\n", "1.0\r\n", " ", "\u00a01.0", "1.0\u2003",
		"0x1.0", "1.0e0", "a.b", "1.a", "0b1.0", "1_0.0", "0o1.0", "1.0f",
		"\xff", "1.0\xff", "\xff1.0", "1\xff.0", "1.\x80", "1\xc0\xae0", "\xc0\xb1.0", "1.0\x00", "\x001.0", "1\x00.0", "\ufffd.0",
		"\u0661.\u0662", "1.\u0662", "\u0967.0", "\uff11.0", "1\uff0e0", "1\u20240", "1.\u00b2", "\u2460.0", "\U0001d7cf.0", "\u2488 0",
		"1\u0301.0", "\ufeff1.0", "1.0\u200b",
	} {
		if got := impl.NetAddr(text); got != -1 {
			t.Errorf("NetAddr(%q) = %d", text, got)
		}
		for _, length := range []string{"", "/0", "/8", "/16"} {
			if got, ok := impl.NetParse(text + length); ok || got != (impl.NetPrefix{}) {
				t.Errorf("NetParse(%q) = %v %v", text+length, got, ok)
			}
		}
	}
}

func TestWrongPrefixTexts(t *testing.T) {
	for _, text := range []string{
		"", "/", "./", "0.0", "0.0/", "/0", "0/0", "0./0", ".0/0", "0.0.0/0", "0/0.0", "0/0/0", "0.0/0/", "0.0//0", "/0.0/0", "0.0/0/0", "0.0/0.0", "0.0/0.",
		"0.0/00", "0.0/01", "1.0/08", "0.0/016", "00.0/0", "0.00/0", "01.0/8",
		"0.0/17", "0.0/20", "0.0/32", "0.0/99", "0.0/100", "0.0/255", "0.0/256", "0.0/272", "0.0/65536", "0.0/4294967296", "0.0/18446744073709551616", "256.0/8", "0.256/16",
		"0.0/-1", "0.0/+8", "0.0/-0", "-1.0/8", "+0.0/0",
		" 0.0/0", "0.0/0 ", "0.0 /0", "0.0/ 0", "0.0/0\n", "\t0.0/0",
		"1.1/8", "0.1/0", "0.1/15", "255.255/15", "128.0/0", "64.0/1", "1.0/7",
		"0.0/\xff", "0.0/0\xff", "0.0\xff0", "0.0/8\x00", "0.0\xc0\xaf8",
		"0.0/\u0668", "0.0/\uff18", "0.0\uff0f0", "0.0\u22150", "0.0\u20440", "\u0660.\u0660/\u0660",
		"0.0\\0", "0.0|0", "0.0/a", "0.0/0x8", "0.0/8.", "0.0/1e1",
	} {
		if got, ok := impl.NetParse(text); ok || got != (impl.NetPrefix{}) {
			t.Errorf("NetParse(%q) = %v %v", text, got, ok)
		}
	}
}

func TestAddressesAndPrefixesAreNotTakenForEachOther(t *testing.T) {
	r := newReading()
	for _, text := range []string{"0.0", "1.2", "255.255", "0.0/0", "1.0/8", "255.255/16"} {
		r.check(t, text)
	}
}

// Every text up to some size, of the bytes that matter most.
func TestEveryShortText(t *testing.T) {
	r := newReading()
	const bytes = "0126./-"
	level := []string{""}
	for size := 0; size <= 7; size++ {
		var longer []string
		for _, text := range level {
			r.check(t, text)
			for i := 0; i < len(bytes) && size < 7; i++ {
				longer = append(longer, text+bytes[i:i+1])
			}
		}
		if t.Failed() {
			return
		}
		level = longer
	}
}

// Every text that is one byte away from one that is right, by any byte.
func TestEveryTextOneByteAway(t *testing.T) {
	r := newReading()
	for _, text := range []string{"0.0", "1.2", "10.20", "255.255", "0.0/0", "1.0/8", "128.0/1", "16.16/12", "255.255/16", "255.254/15"} {
		r.check(t, text)
		for at := 0; at <= len(text); at++ {
			for b := 0; b <= 255; b++ {
				one := string([]byte{byte(b)})
				r.check(t, text[:at]+one+text[at:])
				if at < len(text) {
					r.check(t, text[:at]+one+text[at+1:])
				}
			}
			if at < len(text) {
				r.check(t, text[:at]+text[at+1:])
			}
		}
	}
}

func TestLongTexts(t *testing.T) {
	for _, piece := range []string{"0", "1", "9", ".", "/", "1.", "1.0/8", "\xff", "\u0661", "-"} {
		long := strings.Repeat(piece, 100000)
		for _, text := range []string{long, "1." + long, "1.0/" + long, long + ".0", long + "/8", "1.0/8" + long} {
			if impl.NetAddr(text) != -1 {
				t.Errorf("NetAddr of %d bytes of %q", len(text), piece)
			}
			if p, ok := impl.NetParse(text); ok || p != (impl.NetPrefix{}) {
				t.Errorf("NetParse of %d bytes of %q", len(text), piece)
			}
		}
	}
}

func FuzzTexts(f *testing.F) {
	for _, text := range []string{"", "1.2", "1.0/8", "0.0/0", "255.255/16", "01.0/8", "1.0/08", "256.0", "\xff.0"} {
		f.Add(text)
	}
	r := newReading()
	f.Fuzz(func(t *testing.T, text string) { r.check(t, text) })
}
