package tests

import (
	"fmt"
	"slices"
	"strings"
	"testing"

	"loop.example/g00300/impl"
)

func TestNameLimits(t *testing.T) {
	if impl.MaxName != 60 || impl.MaxLabels != 8 || impl.MaxLabel != 20 {
		t.Error(impl.MaxName, impl.MaxLabels, impl.MaxLabel)
	}
	if len(name60) != 60 || len(eightBig) != 60 || len(label20) != 20 || strings.Count(labels8, ".") != 7 {
		t.Error("the edges of the tests are not where they should be")
	}
}

func TestGoodNameTellsGoodFromBad(t *testing.T) {
	for _, s := range goodNames() {
		if !wantGood(s) || !impl.GoodName(s) {
			t.Errorf("%q is a name", s)
		}
	}
	for _, s := range badNames() {
		if wantGood(s) || impl.GoodName(s) {
			t.Errorf("%.80q is no name", s)
		}
	}
}

func TestGoodNameOfAllSmallTexts(t *testing.T) {
	for _, s := range smallTexts() {
		if got := impl.GoodName(s); got != wantGood(s) {
			t.Errorf("GoodName(%q) = %v", s, got)
		}
	}
}

func TestGoodNameOfEachByte(t *testing.T) {
	for c := range 256 {
		one := string([]byte{byte(c)})
		for _, s := range []string{one, "a" + one, one + "a", "a" + one + "b", "ex." + one, one + ".ex", "ex." + one + ".com"} {
			if got := impl.GoodName(s); got != wantGood(s) {
				t.Errorf("GoodName(%q) = %v", s, got)
			}
		}
	}
}

func TestLabelsAndBack(t *testing.T) {
	for _, s := range goodNames() {
		l, ok := impl.LabelsOf(s)
		if !ok || !slices.Equal(l, wantLabels(s)) {
			t.Errorf("LabelsOf(%q) = %q, %v", s, l, ok)
		}
		if back, ok := impl.NameOf(l); back != s || !ok {
			t.Errorf("NameOf(%q) = %q, %v", l, back, ok)
		}
	}
	for _, s := range badNames() {
		if l, ok := impl.LabelsOf(s); len(l) != 0 || ok {
			t.Errorf("LabelsOf(%.80q) = %d labels, %v", s, len(l), ok)
		}
	}
}

func TestNameOfEdges(t *testing.T) {
	fifteen := strings.Repeat("y", 15)
	cases := []struct {
		labels []string
		name   string
		ok     bool
	}{
		{nil, "", true},
		{[]string{}, "", true},
		{[]string{"com"}, "com", true},
		{[]string{"*"}, "*", true},
		{[]string{"*", "ex", "com"}, "*.ex.com", true},
		{[]string{label20}, label20, true},
		{[]string{label20, label20, fifteen, "ab"}, name60, true},
		{[]string{label20, label20, fifteen, "abc"}, "", false},
		{strings.Split(labels8, "."), labels8, true},
		{strings.Split(labels8+".i", "."), "", false},
		{[]string{label20 + "x"}, "", false},
		{[]string{""}, "", false},
		{[]string{"", ""}, "", false},
		{[]string{"a", "", "b"}, "", false},
		{[]string{"a", ""}, "", false},
		{[]string{"", "a"}, "", false},
		{[]string{"a.b"}, "", false},
		{[]string{"."}, "", false},
		{[]string{"a*", "com"}, "", false},
		{[]string{"**"}, "", false},
		{[]string{"A"}, "", false},
		{[]string{"a b"}, "", false},
		{[]string{strings.Repeat("x", 1<<20)}, "", false},
		{make([]string, 1<<16), "", false},
	}
	for i, c := range cases {
		if s, ok := impl.NameOf(c.labels); s != c.name || ok != c.ok {
			t.Errorf("case %d: NameOf = %q, %v, want %q, %v", i, s, ok, c.name, c.ok)
		}
	}
}

func TestParentOf(t *testing.T) {
	cases := [][2]string{
		{"com", ""}, {"ex.com", "com"}, {"a.ex.com", "ex.com"}, {"*", ""}, {"*.com", "com"}, {"a.*.com", "*.com"},
		{labels8, "b.c.d.e.f.g.h"}, {label20, ""}, {name60, name60[21:]},
	}
	for _, c := range cases {
		if s, ok := impl.ParentOf(c[0]); s != c[1] || !ok {
			t.Errorf("ParentOf(%q) = %q, %v", c[0], s, ok)
		}
	}
	for _, s := range append(badNames(), "") {
		if p, ok := impl.ParentOf(s); p != "" || ok {
			t.Errorf("ParentOf(%.80q) = %q, %v", s, p, ok)
		}
	}
}

func TestWildOf(t *testing.T) {
	cases := [][2]string{
		{"a.com", "*.com"}, {"com", "*"}, {"*", "*"}, {"*.com", "*.com"}, {"a.*.com", "*.*.com"},
		{labels8, "*.b.c.d.e.f.g.h"}, {label20, "*"}, {name60, "*." + name60[21:]},
	}
	for _, c := range cases {
		if s, ok := impl.WildOf(c[0]); s != c[1] || !ok {
			t.Errorf("WildOf(%q) = %q, %v", c[0], s, ok)
		}
	}
	for _, s := range append(badNames(), "") {
		if w, ok := impl.WildOf(s); w != "" || ok {
			t.Errorf("WildOf(%.80q) = %q, %v", s, w, ok)
		}
	}
}

func TestFoldName(t *testing.T) {
	for c := range 256 {
		one := string([]byte{byte(c)})
		want := one
		if c >= 'A' && c <= 'Z' {
			want = string([]byte{byte(c + 32)})
		}
		for _, s := range []string{"", "b", "b.", "B9-_."} {
			wish, wishOk := strings.ToLower(s)+want, true
			if !wantGood(wish) {
				wish, wishOk = "", false
			}
			if got, ok := impl.FoldName(s + one); got != wish || ok != wishOk {
				t.Errorf("FoldName(%q) = %q, %v", s+one, got, ok)
			}
		}
	}
	for _, s := range goodNames() {
		for _, told := range []string{s, strings.ToUpper(s)} {
			if got, ok := impl.FoldName(told); got != s || !ok {
				t.Errorf("FoldName(%q) = %q, %v", told, got, ok)
			}
		}
	}
	for _, s := range []string{strings.ToUpper(name60) + "C", "A..B", "A*", strings.ToUpper(labels8) + ".I", label20 + "X", "\u212a", "\u00c9", "A B", strings.Repeat("A", 1<<20)} {
		if got, ok := impl.FoldName(s); got != "" || ok {
			t.Errorf("FoldName(%.80q) = %q, %v", s, got, ok)
		}
	}
}

func TestIsBelowPairs(t *testing.T) {
	for _, a := range goodNames() {
		for _, b := range goodNames() {
			behind, ahead := wantLabels(a), wantLabels(b)
			want := len(behind) >= len(ahead) && slices.Equal(behind[len(behind)-len(ahead):], ahead)
			if got, ok := impl.IsBelow(a, b); got != want || !ok {
				t.Errorf("IsBelow(%q, %q) = %v, %v", a, b, got, ok)
			}
		}
	}
}

func TestCompareNamesByHand(t *testing.T) {
	cases := []struct {
		a, b string
		want int
	}{
		{"", "", 0}, {"", "a", -1}, {"com", "com", 0}, {"ex.com", "a.ex.com", -1}, {"z.a.ex.com", "b.ex.com", -1},
		{"b.com", "a.net", -1}, {"ab.com", "a.com", 1}, {"a.com", "a-b.com", -1}, {"c.a.com", "a-b.com", -1},
		{"*.com", "-.com", -1}, {"*.com", "0.com", -1}, {"9.com", "a.com", -1}, {"9.com", "_.com", -1}, {"_.com", "a.com", -1},
		{"a.com", "co", 1}, {"z.co", "a.com", -1},
	}
	for _, c := range cases {
		if got, ok := impl.CompareNames(c.a, c.b); got != c.want || !ok {
			t.Errorf("CompareNames(%q, %q) = %d, %v", c.a, c.b, got, ok)
		}
		if got, ok := impl.CompareNames(c.b, c.a); got != -c.want || !ok {
			t.Errorf("CompareNames(%q, %q) = %d, %v", c.b, c.a, got, ok)
		}
	}
}

func TestCompareNamesIsOneOrder(t *testing.T) {
	names := goodNames()
	for _, a := range names {
		for _, b := range names {
			ab, ok := impl.CompareNames(a, b)
			if ab != wantOrder(a, b) || !ok {
				t.Errorf("CompareNames(%q, %q) = %d, %v", a, b, ab, ok)
			}
			if ba, _ := impl.CompareNames(b, a); ba != -ab {
				t.Errorf("%q and %q: %d and %d", a, b, ab, ba)
			}
			if (ab == 0) != (a == b) {
				t.Errorf("%q and %q: %d", a, b, ab)
			}
			for _, c := range names {
				bc, _ := impl.CompareNames(b, c)
				ac, _ := impl.CompareNames(a, c)
				if ab < 0 && bc < 0 && ac >= 0 {
					t.Errorf("%q, %q, %q go round", a, b, c)
				}
			}
		}
	}
}

// Those below a name are a row without a gap, and the name begins it.
func TestThoseBelowStandRightBehind(t *testing.T) {
	sorted, ok := impl.SortNames(goodNames())
	if !ok || len(sorted) != len(goodNames()) {
		t.Fatal(sorted, ok)
	}
	for i, above := range sorted {
		within := true
		for j, s := range sorted {
			below, _ := impl.IsBelow(s, above)
			if below && j < i {
				t.Errorf("%q is below %q and stands ahead of it", s, above)
			}
			if below && j >= i && !within {
				t.Errorf("%q is below %q and stands apart from it", s, above)
			}
			if j >= i {
				within = within && below
			}
		}
	}
}

func TestSortNamesIsSortedAndWhole(t *testing.T) {
	names := goodNames()
	want := slices.Clone(names)
	slices.SortFunc(want, wantOrder)
	back := slices.Clone(names)
	slices.Reverse(back)
	turned := append(slices.Clone(names[20:]), names[:20]...)
	twice := append(slices.Clone(names[:30]), back...)[:60]
	for _, l := range [][]string{names, back, turned, want} {
		if got, ok := impl.SortNames(l); !ok || !slices.Equal(got, want) {
			t.Errorf("SortNames(%q) = %q, %v", l, got, ok)
		}
	}
	wantTwice := slices.Clone(twice)
	slices.SortFunc(wantTwice, wantOrder)
	wantTwice = slices.Compact(wantTwice)
	if got, ok := impl.SortNames(twice); !ok || !slices.Equal(got, wantTwice) || len(got) == len(twice) {
		t.Errorf("SortNames(%q) = %q, %v", twice, got, ok)
	}
}

func TestSortNamesEdges(t *testing.T) {
	var many, same []string
	for i := range 61 {
		many = append(many, fmt.Sprintf("n%02d.com", 60-i))
		same = append(same, "com")
	}
	got, ok := impl.SortNames(many[:60])
	if !ok || len(got) != 60 || got[0] != "n01.com" || got[59] != "n60.com" {
		t.Error(got, ok)
	}
	if got, ok := impl.SortNames(same[:60]); !ok || !slices.Equal(got, []string{"com"}) {
		t.Error(got, ok)
	}
	for _, l := range [][]string{many, same, make([]string, 61), make([]string, 1<<16)} {
		if got, ok := impl.SortNames(l); ok || len(got) != 0 {
			t.Errorf("SortNames of %d names: %d, %v", len(l), len(got), ok)
		}
	}
	for _, l := range [][]string{nil, {}} {
		if got, ok := impl.SortNames(l); !ok || len(got) != 0 {
			t.Error(got, ok)
		}
	}
	if got, ok := impl.SortNames([]string{"", "a", "", "a", ""}); !ok || !slices.Equal(got, []string{"", "a"}) {
		t.Error(got, ok)
	}
	for _, bad := range badNames() {
		for _, l := range [][]string{{bad}, {"a", "b", bad}, {bad, "a"}, {"a", bad, "a"}} {
			if got, ok := impl.SortNames(l); ok || len(got) != 0 {
				t.Errorf("SortNames with %.80q: %d, %v", bad, len(got), ok)
			}
		}
	}
}

// The common name is told by trying all that a is below, the longest first.
func TestCommonOfPairs(t *testing.T) {
	for _, a := range goodNames() {
		for _, b := range goodNames() {
			want := a
			for want != "" && b != want && !strings.HasSuffix(b, "."+want) {
				_, want, _ = strings.Cut(want, ".")
			}
			if got, ok := impl.CommonOf(a, b); got != want || !ok {
				t.Errorf("CommonOf(%q, %q) = %q, %v", a, b, got, ok)
			}
		}
	}
	cases := [][3]string{
		{"a.b.com", "x.b.com", "b.com"}, {"a.com", "a.net", ""}, {"", "com", ""}, {"com", "com", "com"},
		{"ab.com", "b.com", "com"}, {"*.com", "a.*.com", "*.com"}, {"a.b.c", "a.x.c", "c"},
	}
	for _, c := range cases {
		if got, ok := impl.CommonOf(c[0], c[1]); got != c[2] || !ok {
			t.Errorf("CommonOf(%q, %q) = %q, %v", c[0], c[1], got, ok)
		}
	}
}

// One bad name of the two is enough, whatever the other one is.
func TestPairsWithBadNames(t *testing.T) {
	for _, bad := range badNames() {
		for _, other := range []string{"", "com", bad, "a..b"} {
			for _, pair := range [][2]string{{bad, other}, {other, bad}} {
				if below, ok := impl.IsBelow(pair[0], pair[1]); below || ok {
					t.Errorf("IsBelow(%.80q, %.80q) = %v, %v", pair[0], pair[1], below, ok)
				}
				if n, ok := impl.CompareNames(pair[0], pair[1]); n != 0 || ok {
					t.Errorf("CompareNames(%.80q, %.80q) = %d, %v", pair[0], pair[1], n, ok)
				}
				if s, ok := impl.CommonOf(pair[0], pair[1]); s != "" || ok {
					t.Errorf("CommonOf(%.80q, %.80q) = %q, %v", pair[0], pair[1], s, ok)
				}
			}
		}
	}
}
