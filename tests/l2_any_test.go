package tests

import (
	"math"
	"math/rand"
	"slices"
	"strings"
	"testing"

	"loop.example/g00300/impl"
)

func TestWireAnswersShareNoTextWithArguments(t *testing.T) {
	for _, s := range freshTexts(goodNames()) {
		b, _ := impl.NameBytes(s)
		put, _ := impl.PutName("", s)
		behind, _ := impl.PutName(b, s)
		name, _, _ := impl.TakeName(b, 0)
		names, _ := impl.UnpackNames(b, 1)
		packed, _ := impl.PackNames([]string{s})
		for _, told := range append(names, b, put, behind, name, packed) {
			if shareBytes(told, s) || told != b && shareBytes(told, b) {
				t.Errorf("%q, told of %q, lies in an argument", told, s)
			}
		}
	}
}

func TestUnpackedListsAreNewEachTime(t *testing.T) {
	b, _ := impl.PackNames([]string{"a.com", "b.com"})
	one, _ := impl.UnpackNames(b, 2)
	two, _ := impl.UnpackNames(b, 2)
	if shareBytes(one[0], two[0]) {
		t.Error("two answers share a name")
	}
	one[0] = "written"
	places, _ := impl.SuffixesOf(b)
	places[0] = 99
	three, _ := impl.UnpackNames(b, 2)
	again, _ := impl.SuffixesOf(b)
	if two[0] != "a.com" || three[0] != "a.com" || again[0] != 0 {
		t.Error(two, three, again)
	}
}

func TestPackingWritesIntoNoList(t *testing.T) {
	lists := [][]string{
		nil, {""}, {"b", "a"}, {"c.com", "b.com", "b.com", "", "a.b.com"}, {"a", "bad..name", "b"}, goodNames()[:20],
		make([]string, 20), make([]string, 21), twentyOf30(), withLast(twentyOf30(), name60), badNames(),
	}
	for _, l := range lists {
		given, whole := withSpare(l)
		before := slices.Clone(whole)
		plain, plainOk := impl.PackNames(slices.Clip(slices.Clone(l)))
		if packed, ok := impl.PackNames(given); packed != plain || ok != plainOk {
			t.Errorf("PackNames reads behind the list's length: %q, %v", packed, ok)
		}
		size, single, plainOk := impl.PackedSize(slices.Clip(slices.Clone(l)))
		if n, m, ok := impl.PackedSize(given); n != size || m != single || ok != plainOk {
			t.Errorf("PackedSize reads behind the list's length: %d, %d, %v", n, m, ok)
		}
		if !slices.Equal(whole, before) {
			t.Errorf("a list of %d was written into", len(l))
		}
	}
}

func checkWire(t *testing.T, b string, at, many int) {
	name, _, behind, ok := wantRead(b, at)
	if s, end, good := impl.TakeName(b, at); s != name || end != behind || good != ok {
		t.Errorf("TakeName(%.80q, %d) = %q, %d, %v", b, at, s, end, good)
	}
	places, ok := wantSuffixes(b)
	got, good := impl.SuffixesOf(b)
	if !slices.Equal(got, places) || good != ok {
		t.Errorf("SuffixesOf(%.80q) = %v, %v; want %v", b, got, good, places)
	}
	names, ok := wantUnpack(b, many)
	if l, good := impl.UnpackNames(b, many); !slices.Equal(l, names) || good != ok {
		t.Errorf("UnpackNames(%.80q, %d) = %q, %v; want %q", b, many, l, good, names)
	}
}

func TestWireAnswersAtAnyArguments(t *testing.T) {
	r := rand.New(rand.NewSource(4))
	for range 10000 {
		b := randomWire(r)
		if r.Intn(8) == 0 {
			stray := make([]byte, r.Intn(40))
			r.Read(stray)
			b = string(stray)
		}
		checkWire(t, b, r.Intn(len(b)+4)-2, r.Intn(8))
		s := randomText(r)
		plain, ok := impl.NameBytes(s)
		if ok != wantGood(s) || ok && plain != wantPlain(s) || !ok && plain != "" {
			t.Errorf("NameBytes(%q) = %q, %v", s, plain, ok)
		}
		want, wantOk := wantPut(b, s)
		if put, ok := impl.PutName(b, s); put != want || ok != wantOk {
			t.Errorf("PutName(%q, %q) = %q, %v", b, s, put, ok)
		}
	}
	for _, b := range []string{"", "\x00", "\xc0", strings.Repeat("\x01a", 300), strings.Repeat("\xc0\x00", 300), strings.Repeat("\xff", 1<<20)} {
		for _, n := range []int{math.MinInt, -1, 0, 1, 20, 21, 599, 600, math.MaxInt} {
			checkWire(t, b, n, n)
		}
	}
}

// All texts of at most five bytes over the bytes that the chapter tells apart, at every place.
func TestWireOfAllSmallTexts(t *testing.T) {
	for _, b := range textsOver("\x00\x01\x02aA.\x40\xc0", 5) {
		for at := -1; at <= len(b); at++ {
			checkWire(t, b, at, at)
		}
	}
}
