package tests

import (
	"math"
	"math/rand"
	"slices"
	"strings"
	"testing"

	"loop.example/g00300/impl"
)

func wantTaken(t *testing.T, b string, at int, name string, behind int) {
	t.Helper()
	if s, end, ok := impl.TakeName(b, at); s != name || end != behind || !ok {
		t.Errorf("TakeName(%.80q, %d) = %q, %d, %v; want %q, %d", b, at, s, end, ok, name, behind)
	}
}

func wantNotTaken(t *testing.T, b string, at int) {
	t.Helper()
	if s, end, ok := impl.TakeName(b, at); s != "" || end != 0 || ok {
		t.Errorf("TakeName(%.80q, %d) = %q, %d, %v; no name stands there", b, at, s, end, ok)
	}
}

func wantPutAs(t *testing.T, b, s, told string) {
	t.Helper()
	if got, ok := impl.PutName(b, s); got != b+told || !ok {
		t.Errorf("PutName(%.80q, %q) = %.80q, %v; want %q behind it", b, s, got, ok, told)
	}
}

func wantNotPut(t *testing.T, b, s string) {
	t.Helper()
	if got, ok := impl.PutName(b, s); got != "" || ok {
		t.Errorf("PutName of %d bytes and %.80q = %.80q, %v", len(b), s, got, ok)
	}
}

func wantPlaces(t *testing.T, b string, places ...int) {
	t.Helper()
	if got, ok := impl.SuffixesOf(b); !slices.Equal(got, places) || !ok {
		t.Errorf("SuffixesOf(%.80q) = %v, %v; want %v", b, got, ok, places)
	}
}

func TestWireLimit(t *testing.T) {
	if impl.MaxWire != 600 {
		t.Error(impl.MaxWire)
	}
	packed, plain := "", ""
	for _, s := range twentyOf30() {
		plain += wantPlain(s)
		packed, _ = wantPut(packed, s)
	}
	if len(plain) != 600 || packed != plain {
		t.Error("the edge of the tests is not where it should be", len(plain), len(packed))
	}
}

func TestNameBytes(t *testing.T) {
	cases := []struct{ name, bytes string }{
		{"", "\x00"},
		{"a", "\x01a\x00"},
		{"*", "\x01*\x00"},
		{"ex.com", "\x02ex\x03com\x00"},
		{"com.com", "\x03com\x03com\x00"},
		{"*.a-b.0_", "\x01*\x03a-b\x020_\x00"},
		{label20, "\x14" + label20 + "\x00"},
		{labels8, "\x01a\x01b\x01c\x01d\x01e\x01f\x01g\x01h\x00"},
	}
	for _, c := range cases {
		if b, ok := impl.NameBytes(c.name); b != c.bytes || !ok {
			t.Errorf("NameBytes(%q) = %q, %v", c.name, b, ok)
		}
	}
}

func TestNameBytesAndBack(t *testing.T) {
	for _, s := range goodNames() {
		b, ok := impl.NameBytes(s)
		if b != wantPlain(s) || !ok {
			t.Errorf("NameBytes(%q) = %q, %v", s, b, ok)
		}
		wantTaken(t, b, 0, s, len(b))
		wantTaken(t, "\x00\x01"+b+"a", 2, s, len(b)+2)
	}
	for _, s := range badNames() {
		if b, ok := impl.NameBytes(s); b != "" || ok {
			t.Errorf("NameBytes(%.80q) = %.80q, %v", s, b, ok)
		}
	}
}

func TestTakeNameAtPlaces(t *testing.T) {
	b := wantPlain("a.ex.com")
	wantTaken(t, b, 0, "a.ex.com", 10)
	wantTaken(t, b, 2, "ex.com", 10)
	wantTaken(t, b, 5, "com", 10)
	wantTaken(t, b, 9, "", 10)
	for _, at := range []int{1, 3, 4, 6, 8, 10, 11, -1, -2, math.MinInt, math.MaxInt, math.MinInt + 5, math.MaxInt - 1} {
		wantNotTaken(t, b, at)
	}
	wantTaken(t, "\x00", 0, "", 1)
	wantNotTaken(t, "\x00", 1)
	wantNotTaken(t, "\x00", -1)
	wantNotTaken(t, "", 0)
	wantNotTaken(t, "", -1)
	wantNotTaken(t, "", 1)
}

func TestTakeNameEndsInAPointer(t *testing.T) {
	b := wantPlain("ex.com")
	wantTaken(t, b+"\xc0\x00", 8, "ex.com", 10)
	wantTaken(t, b+"\xc0\x03", 8, "com", 10)
	wantTaken(t, b+"\xc0\x07", 8, "", 10)
	wantTaken(t, b+"\x01a\xc0\x00", 8, "a.ex.com", 12)
	wantTaken(t, b+"\x01a\x01b\xc0\x03\x01c", 8, "a.b.com", 14)
	wantTaken(t, b+"\x01a\xc0\x07", 8, "a", 12)
	wantTaken(t, b+"\x01a\xc0\x00", 10, "ex.com", 12)
	wantTaken(t, b+"\xc0\x00", 9, "", 10)
	wantNotTaken(t, b+"\xc0\x00", 10)
	wantNotTaken(t, b+"\xc0\x01", 8)
	// Into the middle of other bytes a pointer may lead, if a name stands there.
	wantTaken(t, "\x02\x01a\x00\xc0\x01", 4, "a", 6)
}

func TestPointersLeadBack(t *testing.T) {
	for at, b := range []string{"\xc0\x00", "\x00\xc0\x01", "\x00\x00\xc0\x02"} {
		wantNotTaken(t, b, at)
	}
	wantNotTaken(t, "\xc0\x02\x01a\x00", 0)
	wantNotTaken(t, "\xc0\x05", 0)
	wantNotTaken(t, "\xff\xff", 0)
	wantNotTaken(t, "\x01a\xc0\x00", 0)
	wantNotTaken(t, "\x01a\x01b\xc0\x02", 0)
	wantNotTaken(t, "\x00\x01a\xc0\x01", 1)
	wantNotTaken(t, "\x00\x01a\xc0\x02", 1)
	wantTaken(t, "\x00\x01a\xc0\x00", 1, "a", 5)
	wantTaken(t, "\x00\xc0\x00", 1, "", 3)
	// Ahead of the pointer is not enough: it must be ahead of where the name began.
	wantNotTaken(t, "\x00\x01a\x01b\x00\x01c\xc0\x06", 6)
	wantNotTaken(t, "\x01a\x01b\x01c\xc0\x04\x00", 2)
}

func TestChainsOfPointers(t *testing.T) {
	back := "\x01a\x00\xc0\x00\xc0\x03\x01b\xc0\x05"
	wantTaken(t, back, 3, "a", 5)
	wantTaken(t, back, 5, "a", 7)
	wantTaken(t, back, 7, "b.a", 11)
	wantTaken(t, back, 9, "a", 11)

	// From 7 to 3 and on to 5, which is below 7, yet not below 3.
	forth := "\x01a\x00\xc0\x05\xc0\x00\xc0\x03"
	wantTaken(t, forth, 5, "a", 7)
	wantNotTaken(t, forth, 3)
	wantNotTaken(t, forth, 7)

	// From 6 to 0, along two labels, and on to 2.
	round := "\x01a\x01b\xc0\x02\xc0\x00"
	wantNotTaken(t, round, 6)
	wantNotTaken(t, round, 0)
	wantNotTaken(t, "\x01a\x01b\xc0\x00\xc0\x00", 6)
	wantNotTaken(t, "\x00\x01a\x01b\xc0\x01\xc0\x03", 7)
	wantTaken(t, "\x00\x01a\x01b\xc0\x00\xc0\x03", 7, "b", 9)
	wantTaken(t, "\x00\x01a\x01b\xc0\x00\xc0\x01", 7, "a.b", 9)

	long := "\x01z\x00\xc0\x00"
	for len(long) < 599 {
		long += pointerTo(len(long) - 2)
	}
	wantTaken(t, long, 597, "z", 599)
}

func TestPointersBeyond255(t *testing.T) {
	for _, place := range []int{0, 1, 255, 256, 257, 511, 512, 590} {
		b := strings.Repeat("\x00", place) + wantPlain("com")
		wantTaken(t, b+pointerTo(place), len(b), "com", len(b)+2)
		wantPutAs(t, b, "com", pointerTo(place))
		wantPlaces(t, b, place)
	}
	wantPutAs(t, strings.Repeat("\x00", 255)+"\x01a\x00", "a", "\xc0\xff")
	wantPutAs(t, strings.Repeat("\x00", 256)+"\x01a\x00", "a", "\xc1\x00")
	wantPutAs(t, strings.Repeat("\x00", 513)+"\x01a\x00", "b.a", "\x01b\xc2\x01")
	// All of what is left by 64 counts: of such bytes 192 alone leads to 0.
	wantTaken(t, "\x01a\x00\xc0\x00", 3, "a", 5)
	for first := 193; first < 256; first++ {
		wantNotTaken(t, "\x01a\x00"+string([]byte{byte(first), 0}), 3)
	}
}

func TestTakeNameReadsGreatLettersAsSmall(t *testing.T) {
	wantTaken(t, "\x02EX\x03CoM\x00", 0, "ex.com", 8)
	wantTaken(t, "\x03COM\x00\x02eX\xc0\x00", 5, "ex.com", 10)
	for c := range 256 {
		one := string([]byte{byte(c)})
		for _, b := range []string{"\x01" + one + "\x00", "\x03a" + one + "b\x00", "\x01a\x01" + one + "\x00"} {
			name, _, behind, ok := wantRead(b, 0)
			if s, end, good := impl.TakeName(b, 0); s != name || end != behind || good != ok {
				t.Errorf("TakeName(%q, 0) = %q, %d, %v", b, s, end, good)
			}
		}
	}
}

func TestTakeNameWantsAName(t *testing.T) {
	bad := []string{
		"\x01.\x00", "\x03a.b\x00", "\x02a.\x00", "\x02.a\x00", "\x02*a\x00", "\x02**\x00", "\x01\x00\x00", "\x01 \x00",
		"\x03\xe2\x84\xaa\x00", "\x02\xc5\xbf\x00", "\x02\xc3\xa9\x00", "\x01@\x00", "\x01[\x00", "\x01`\x00", "\x01{\x00",
	}
	for _, b := range bad {
		wantNotTaken(t, b, 0)
	}
	wantTaken(t, "\x01*\x01*\x00", 0, "*.*", 5)
	wantTaken(t, wantPlain(name60), 0, name60, 62)
	wantNotTaken(t, "\x14"+label20+"\x14"+label20+"\x0f"+strings.Repeat("y", 15)+"\x03abc\x00", 0)
	wantTaken(t, strings.Repeat("\x01a", 8)+"\x00", 0, strings.Repeat("a.", 7)+"a", 17)
	wantNotTaken(t, strings.Repeat("\x01a", 9)+"\x00", 0)

	// Labels on both sides of a pointer are one name.
	four := strings.Repeat("\x01b", 4)
	wantTaken(t, four+"\x00"+four+"\xc0\x00", 9, "b.b.b.b.b.b.b.b", 19)
	wantNotTaken(t, four+"\x00\x01c"+four+"\xc0\x00", 9)
	ends := wantPlain(label20 + "." + strings.Repeat("y", 18))
	wantTaken(t, ends+"\x14"+label20+"\xc0\x00", len(ends), label20+"."+label20+"."+strings.Repeat("y", 18), len(ends)+23)
	ends = wantPlain(label20 + "." + strings.Repeat("y", 19))
	wantNotTaken(t, ends+"\x14"+label20+"\xc0\x00", len(ends))
}

func TestTakeNameOfEachLengthByte(t *testing.T) {
	for n := range 256 {
		mark := string([]byte{byte(n)})
		b := mark + strings.Repeat("a", n) + "\x00"
		switch {
		case n == 0:
			wantTaken(t, b, 0, "", 1)
		case n <= 20:
			wantTaken(t, b, 0, strings.Repeat("a", n), n+2)
			wantTaken(t, "\x01b"+b, 0, "b."+strings.Repeat("a", n), n+4)
		default:
			wantNotTaken(t, b, 0)
			wantNotTaken(t, "\x01b"+b, 0)
		}
		if n >= 64 && n < 192 {
			wantNotTaken(t, "\x00"+mark+"\x00", 1)
			wantNotTaken(t, "\x00\x01a"+mark+"\x00", 1)
			wantPlaces(t, "\x01a\x00"+mark+"\x01b\x00", 0)
		}
	}
}

func TestTakeNameOfBytesThatEnd(t *testing.T) {
	whole := wantPlain("a.ex.com")
	for n := range whole {
		wantNotTaken(t, whole[:n], 0)
	}
	whole += "\x01b\xc0\x02"
	for n := 10; n < len(whole); n++ {
		wantNotTaken(t, whole[:n], 10)
	}
	wantTaken(t, whole, 10, "b.ex.com", 14)
	wantNotTaken(t, "\x00\xc0", 1)
	wantNotTaken(t, "\x01", 0)
	wantNotTaken(t, "\x02a", 0)
	wantNotTaken(t, "\x01a", 0)
	wantNotTaken(t, "\x14"+label20[1:], 0)
}

func TestTakeNameOf600Bytes(t *testing.T) {
	b := strings.Repeat("\x00", 597) + "\x01a\x00"
	wantTaken(t, b, 597, "a", 600)
	wantTaken(t, b, 599, "", 600)
	wantTaken(t, b, 0, "", 1)
	wantNotTaken(t, b, 600)
	wantNotTaken(t, b+"\x00", 597)
	wantNotTaken(t, b+"\x00", 0)
	wantNotTaken(t, b+"\x00", 600)
}

func TestSuffixesOf(t *testing.T) {
	wantPlaces(t, "")
	wantPlaces(t, "\x00")
	wantPlaces(t, "\x00\x00\xc0\x00")
	wantPlaces(t, "\x01a\x00", 0)
	wantPlaces(t, wantPlain("a.ex.com"), 0, 2, 5)
	wantPlaces(t, wantPlain("a.ex.com")+"\x01b\xc0\x02\xc0\x02\x00\x03net\x00", 0, 2, 5, 10, 17)
	wantPlaces(t, "\x01a\x00\x01a\x00", 0, 3)
	wantPlaces(t, strings.ToUpper(wantPlain("a.ex.com")), 0, 2, 5)
	// Reading ends at the first thing that is no name, and tells no place of it.
	wantPlaces(t, "\x01a\x00\x01b", 0)
	wantPlaces(t, "\x01a\x00\x01b\x01", 0)
	wantPlaces(t, "\x01a\x00\x01b\x01.\x00\x01c\x00", 0)
	wantPlaces(t, "\x01a\x00\xc0\x03\x01c\x00", 0)
	wantPlaces(t, "\x01a\x00\x01b\xc0\x03\x01c\x00", 0)
	wantPlaces(t, "\x01a\x00"+strings.Repeat("\x01b", 9)+"\x00\x01c\x00", 0)
	wantPlaces(t, "\x40\x01a\x00")
	wantPlaces(t, "\xc0\x00\x01a\x00")

	var many []int
	for i := range 200 {
		many = append(many, 3*i)
	}
	wantPlaces(t, strings.Repeat("\x01a\x00", 200), many...)
	if got, ok := impl.SuffixesOf(strings.Repeat("\x01a\x00", 200) + "\x00"); len(got) != 0 || ok {
		t.Error("SuffixesOf of 601 bytes", got, ok)
	}
}

func TestPutName(t *testing.T) {
	wantPutAs(t, "", "", "\x00")
	wantPutAs(t, "", "ex.com", "\x02ex\x03com\x00")
	ex := wantPlain("ex.com")
	wantPutAs(t, ex, "ex.com", "\xc0\x00")
	wantPutAs(t, ex, "com", "\xc0\x03")
	wantPutAs(t, ex, "", "\x00")
	wantPutAs(t, ex, "a.ex.com", "\x01a\xc0\x00")
	wantPutAs(t, ex, "b.a.com", "\x01b\x01a\xc0\x03")
	wantPutAs(t, ex, "ex.net", "\x02ex\x03net\x00")
	wantPutAs(t, ex, "ex", "\x02ex\x00")
	wantPutAs(t, ex, "com.ex", "\x03com\x02ex\x00")
	wantPutAs(t, ex, "aex.com", "\x03aex\xc0\x03")
	wantPutAs(t, ex, "com.com", "\x03com\xc0\x03")
	wantPutAs(t, "\x00", "", "\x00")
	wantPutAs(t, "\x03COM\x00", "ex.com", "\x02ex\xc0\x00")

	// The longest suffix counts, though a shorter one stands ahead of it; of places with one name the least.
	wantPutAs(t, wantPlain("com")+"\x02ex\xc0\x00", "a.ex.com", "\x01a\xc0\x05")
	wantPutAs(t, wantPlain("com")+ex, "com", "\xc0\x00")
	wantPutAs(t, ex+ex, "a.ex.com", "\x01a\xc0\x00")
	wantPutAs(t, "\x01b\x03com\x00"+wantPlain("com")+ex, "x.com", "\x01x\xc0\x02")

	// What is not read as a name from the front is not pointed to.
	wantPutAs(t, "\x40"+ex, "ex.com", ex)
	wantPutAs(t, ex+"\x40"+wantPlain("net"), "net", wantPlain("net"))
	wantPutAs(t, ex+"\x03net", "net", wantPlain("net"))
	wantPutAs(t, "\x02\x01a\x00", "a", "\x01a\x00")
	wantPutAs(t, ex+"\xc0", "com", "\xc0\x03")
}

func TestPutNameRefuses(t *testing.T) {
	for _, s := range badNames() {
		wantNotPut(t, "", s)
		wantNotPut(t, wantPlain("com"), s)
	}
	zeros := strings.Repeat("\x00", 600)
	wantPutAs(t, zeros[:599], "", "\x00")
	wantNotPut(t, zeros, "")
	wantNotPut(t, zeros+"\x00", "")
	wantPutAs(t, zeros[:597], "a", "\x01a\x00")
	wantNotPut(t, zeros[:598], "a")
	wantPutAs(t, "\x01a\x00"+zeros[:595], "a", "\xc0\x00")
	wantNotPut(t, "\x01a\x00"+zeros[:596], "a")
	wantNotPut(t, strings.Repeat("\x00", 1<<20), "a")
}

func TestPackNames(t *testing.T) {
	cases := []struct {
		names  []string
		packed string
	}{
		{nil, ""},
		{[]string{}, ""},
		{[]string{""}, "\x00"},
		{[]string{"", ""}, "\x00\x00"},
		{[]string{"com", "com"}, "\x03com\x00\xc0\x00"},
		{[]string{"a.ex.com", "b.ex.com", "ex.com", ""}, "\x01a\x02ex\x03com\x00\x01b\xc0\x02\xc0\x02\x00"},
		{[]string{"com", "ex.com", "a.ex.com", "b.com"}, "\x03com\x00\x02ex\xc0\x00\x01a\xc0\x05\x01b\xc0\x00"},
		{[]string{"a.a", "a.a.a"}, "\x01a\x01a\x00\x01a\xc0\x00"},
	}
	for _, c := range cases {
		if b, ok := impl.PackNames(c.names); b != c.packed || !ok {
			t.Errorf("PackNames(%q) = %q, %v", c.names, b, ok)
		}
	}
}

func wantNotPacked(t *testing.T, l []string) {
	t.Helper()
	if b, ok := impl.PackNames(l); b != "" || ok {
		t.Errorf("PackNames of %d names = %.80q, %v", len(l), b, ok)
	}
	if n, plain, ok := impl.PackedSize(l); n != 0 || plain != 0 || ok {
		t.Errorf("PackedSize of %d names = %d, %d, %v", len(l), n, plain, ok)
	}
}

func TestPackNamesLimits(t *testing.T) {
	wantNotPacked(t, make([]string, 21))
	wantNotPacked(t, make([]string, 1000))
	wantNotPacked(t, slices.Repeat([]string{"com"}, 21))
	if b, ok := impl.PackNames(make([]string, 20)); b != strings.Repeat("\x00", 20) || !ok {
		t.Errorf("20 roots: %q, %v", b, ok)
	}
	just := twentyOf30()
	if b, ok := impl.PackNames(just); len(b) != 600 || !ok {
		t.Errorf("600 bytes: %d, %v", len(b), ok)
	}
	if n, plain, ok := impl.PackedSize(just); n != 600 || plain != 600 || !ok {
		t.Errorf("600 bytes: %d, %d, %v", n, plain, ok)
	}
	wantNotPacked(t, withLast(just, label20+".last-xyz"))
	for _, s := range badNames() {
		wantNotPacked(t, []string{s})
		wantNotPacked(t, []string{"com", s})
		wantNotPacked(t, []string{s, "com"})
	}
}

func TestPackedSize(t *testing.T) {
	cases := []struct {
		names         []string
		packed, plain int
	}{
		{nil, 0, 0},
		{[]string{""}, 1, 1},
		{[]string{"a", "a"}, 5, 6},
		{[]string{"a.ex.com", "b.ex.com", "ex.com", ""}, 17, 29},
		{make([]string, 20), 20, 20},
		// Without pointers there is no limit of bytes.
		{slices.Repeat([]string{name60}, 20), 62 + 19*2, 20 * 62},
	}
	for _, c := range cases {
		if packed, plain, ok := impl.PackedSize(c.names); packed != c.packed || plain != c.plain || !ok {
			t.Errorf("PackedSize(%q) = %d, %d, %v", c.names, packed, plain, ok)
		}
	}
}

func wantNotUnpacked(t *testing.T, b string, many int) {
	t.Helper()
	if l, ok := impl.UnpackNames(b, many); len(l) != 0 || ok {
		t.Errorf("UnpackNames(%.80q, %d) = %q, %v", b, many, l, ok)
	}
}

func wantUnpacked(t *testing.T, b string, l ...string) {
	t.Helper()
	if got, ok := impl.UnpackNames(b, len(l)); !slices.Equal(got, l) || !ok {
		t.Errorf("UnpackNames(%.80q, %d) = %q, %v", b, len(l), got, ok)
	}
}

func TestUnpackNames(t *testing.T) {
	wantUnpacked(t, "")
	wantUnpacked(t, "\x00", "")
	wantUnpacked(t, "\x00\xc0\x00", "", "")
	wantUnpacked(t, "\x03COM\x00\x02ex\xc0\x00", "com", "ex.com")
	b := "\x01a\x02ex\x03com\x00\x01b\xc0\x02\xc0\x02\x00"
	wantUnpacked(t, b, "a.ex.com", "b.ex.com", "ex.com", "")
	for _, many := range []int{-1, 0, 1, 2, 3, 5, 20, 21, math.MinInt, math.MaxInt} {
		wantNotUnpacked(t, b, many)
	}
	// Bytes left over, and too few of them.
	wantNotUnpacked(t, b+"\x00", 4)
	wantNotUnpacked(t, b+"\x01", 4)
	wantNotUnpacked(t, b[:len(b)-1], 4)
	wantNotUnpacked(t, b[:len(b)-2], 3)
	wantNotUnpacked(t, "", 1)
	wantNotUnpacked(t, "", -1)
	wantNotUnpacked(t, "", 21)
	wantNotUnpacked(t, "\x00", 0)
	// A pointer to the front of its own name, and ahead.
	wantNotUnpacked(t, "\x01a\x00\xc0\x03", 2)
	wantNotUnpacked(t, "\xc0\x02\x00", 2)
}

func TestUnpackNamesLimits(t *testing.T) {
	zeros := strings.Repeat("\x00", 30)
	wantUnpacked(t, zeros[:20], make([]string, 20)...)
	wantNotUnpacked(t, zeros[:20], 19)
	wantNotUnpacked(t, zeros[:21], 20)
	wantNotUnpacked(t, zeros[:21], 21)
	wantNotUnpacked(t, zeros[:22], 22)

	just := twentyOf30()
	plain := ""
	for _, s := range just {
		plain += wantPlain(s)
	}
	wantUnpacked(t, plain, just...)
	wantNotUnpacked(t, strings.TrimSuffix(plain, wantPlain(just[19]))+wantPlain(label20+".last-xyz"), 20)
	wantNotUnpacked(t, strings.Repeat("\x00", 601), 0)
	wantNotUnpacked(t, strings.Repeat("\x00", 600), 0)
}

// Promise 2: what was packed comes back, and is no longer than without pointers.
func wantBackFromBytes(t *testing.T, l []string) {
	t.Helper()
	b, ok := impl.PackNames(l)
	want, wantOk := wantPack(l)
	if b != want || ok != wantOk {
		t.Fatalf("PackNames(%q) = %q, %v; want %q, %v", l, b, ok, want, wantOk)
	}
	packed, plain, sized := impl.PackedSize(l)
	if sized != ok || packed != len(b) || packed > plain {
		t.Fatalf("PackedSize(%q) = %d, %d, %v", l, packed, plain, sized)
	}
	if !ok {
		return
	}
	sum := 0
	for _, s := range l {
		sum += len(wantPlain(s))
	}
	if back, good := impl.UnpackNames(b, len(l)); !slices.Equal(back, l) || !good || plain != sum {
		t.Fatalf("UnpackNames(%q, %d) = %q, %v; plain %d, want %d", b, len(l), back, good, plain, sum)
	}
}

func TestNamesComeBackFromTheirBytes(t *testing.T) {
	all := goodNames()
	for from := 0; from+20 <= len(all); from++ {
		wantBackFromBytes(t, all[from:from+20])
		wantBackFromBytes(t, all[from:from+3])
	}
	for _, a := range all {
		for _, b := range all {
			wantBackFromBytes(t, []string{a, b})
			wantBackFromBytes(t, []string{a, b, a})
		}
	}
	r := rand.New(rand.NewSource(2))
	for range 3000 {
		wantBackFromBytes(t, randomNames(r, 21))
	}
}

// Behind any bytes a name is put so that it is told at its place, and in no more bytes than its own.
func TestAPutNameIsTaken(t *testing.T) {
	r := rand.New(rand.NewSource(3))
	for range 5000 {
		b, s := randomWire(r), randomName(r)
		got, ok := impl.PutName(b, s)
		if want, wantOk := wantPut(b, s); got != want || ok != wantOk {
			t.Fatalf("PutName(%q, %q) = %q, %v; want %q, %v", b, s, got, ok, want, wantOk)
		}
		if !ok {
			continue
		}
		wantTaken(t, got, len(b), s, len(got))
		if len(got)-len(b) > len(wantPlain(s)) {
			t.Errorf("PutName(%q, %q) is longer than without pointers", b, s)
		}
	}
}
