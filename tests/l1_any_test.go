package tests

import (
	"math/rand"
	"slices"
	"strings"
	"testing"
	"unsafe"

	"loop.example/g00300/impl"
)

// fromText are the functions of chapter 1 that answer texts of one text.
func fromText(s string) []string {
	labels, _ := impl.LabelsOf(s)
	parent, _ := impl.ParentOf(s)
	folded, _ := impl.FoldName(s)
	wild, _ := impl.WildOf(s)
	return append(labels, parent, folded, wild)
}

// shareBytes tells whether two texts lie upon each other in memory.
func shareBytes(a, b string) bool {
	if a == "" || b == "" {
		return false
	}
	fromA := uintptr(unsafe.Pointer(unsafe.StringData(a)))
	fromB := uintptr(unsafe.Pointer(unsafe.StringData(b)))
	return fromA < fromB+uintptr(len(b)) && fromB < fromA+uintptr(len(a))
}

func freshTexts(l []string) []string {
	fresh := make([]string, len(l))
	for i, s := range l {
		fresh[i] = strings.Clone(s)
	}
	return fresh
}

// withSpare puts texts behind the list's length, where nothing may be read or written.
func withSpare(l []string) ([]string, []string) {
	whole := append(freshTexts(l), "spare.one", "bad..spare", "a.com")
	return whole[:len(l)], whole
}

func TestAnswersShareNoTextWithArguments(t *testing.T) {
	for _, s := range freshTexts(goodNames()) {
		for _, told := range fromText(s) {
			if shareBytes(told, s) {
				t.Errorf("%q, told of %q, lies in it", told, s)
			}
		}
		for _, other := range freshTexts(goodNames()) {
			common, _ := impl.CommonOf(s, other)
			if shareBytes(common, s) || shareBytes(common, other) {
				t.Errorf("CommonOf(%q, %q) lies in an argument", s, other)
			}
		}
		if common, _ := impl.CommonOf(s, s); shareBytes(common, s) {
			t.Errorf("CommonOf(%q, %q) lies in an argument", s, s)
		}
	}
}

func TestListsComeBackApart(t *testing.T) {
	for _, l := range [][]string{{"com"}, {"b", "a"}, {"a", "a"}, {"*"}, {label20, "ex", "com"}, strings.Split(labels8, ".")} {
		given := freshTexts(l)
		name, ok := impl.NameOf(given)
		sorted, ok2 := impl.SortNames(given)
		if !ok || !ok2 {
			t.Fatal(l, ok, ok2)
		}
		for _, s := range given {
			if shareBytes(name, s) {
				t.Errorf("NameOf(%q) lies in an argument", l)
			}
			for _, told := range sorted {
				if shareBytes(told, s) {
					t.Errorf("SortNames(%q) lies in an argument", l)
				}
			}
		}
		for i := range sorted {
			sorted[i] = "written"
		}
		if !slices.Equal(given, l) {
			t.Errorf("SortNames(%q) answers the argument's own memory", l)
		}
	}
}

// A list of labels that is answered twice is two lists.
func TestLabelsOfAreNewEachTime(t *testing.T) {
	one, _ := impl.LabelsOf("a.ex.com")
	two, _ := impl.LabelsOf("a.ex.com")
	one[0] = "written"
	three, _ := impl.LabelsOf("a.ex.com")
	if two[0] != "a" || three[0] != "a" {
		t.Error(two, three)
	}
}

func TestNoListIsWrittenInto(t *testing.T) {
	lists := [][]string{
		nil, {"b", "a"}, {"c.com", "b.com", "b.com", "", "a.b.com"}, {"a", "bad..name", "b"}, {"a", "b", "a"}, goodNames(),
		{"z", "y", "x", "w", "v", "u", "t", "s"}, make([]string, 61), slices.Repeat([]string{"b", "a"}, 30), badNames(),
	}
	for _, l := range lists {
		given, whole := withSpare(l)
		before := slices.Clone(whole)
		plainName, plainOk := impl.NameOf(slices.Clip(slices.Clone(l)))
		if name, ok := impl.NameOf(given); name != plainName || ok != plainOk {
			t.Errorf("NameOf reads behind the list's length: %q, %v", name, ok)
		}
		plainSorted, plainOk := impl.SortNames(slices.Clip(slices.Clone(l)))
		if sorted, ok := impl.SortNames(given); !slices.Equal(sorted, plainSorted) || ok != plainOk {
			t.Errorf("SortNames reads behind the list's length: %q, %v", sorted, ok)
		}
		if !slices.Equal(whole, before) {
			t.Errorf("a list of %d was written into", len(l))
		}
	}
}

// randomText leans on the bytes of names, so that good and bad texts both come often.
func randomText(r *rand.Rand) string {
	const often = "abz09-_*..AZ"
	b := make([]byte, r.Intn(4)*r.Intn(24))
	for i := range b {
		b[i] = often[r.Intn(len(often))]
		if r.Intn(40) == 0 {
			b[i] = byte(r.Intn(256))
		}
	}
	if r.Intn(2) == 0 {
		return strings.ReplaceAll(string(b), "*", "s")
	}
	return string(b)
}

func checkOneText(t *testing.T, s string) {
	good := wantGood(s)
	if impl.GoodName(s) != good {
		t.Errorf("GoodName(%q)", s)
	}
	labels, ok := impl.LabelsOf(s)
	if ok != good || !ok && len(labels) != 0 || ok && strings.Join(labels, ".") != s {
		t.Errorf("LabelsOf(%q) = %q, %v", s, labels, ok)
	}
	first, behind, _ := strings.Cut(s, ".")
	if parent, ok := impl.ParentOf(s); ok != (good && s != "") || !ok && parent != "" || ok && parent != behind {
		t.Errorf("ParentOf(%q) = %q, %v", s, parent, ok)
	}
	if wild, ok := impl.WildOf(s); ok != (good && s != "") || !ok && wild != "" || ok && wild != "*"+s[len(first):] {
		t.Errorf("WildOf(%q) = %q, %v", s, wild, ok)
	}
	small := strings.Map(func(c rune) rune {
		if c >= 'A' && c <= 'Z' {
			return c + 32
		}
		return c
	}, s)
	if folded, ok := impl.FoldName(s); ok != wantGood(small) || ok && folded != small || !ok && folded != "" {
		t.Errorf("FoldName(%q) = %q, %v", s, folded, ok)
	}
}

func checkTwoTexts(t *testing.T, a, b string) {
	good := wantGood(a) && wantGood(b)
	wantCompare, wantBelow := 0, false
	if good {
		wantCompare = wantOrder(a, b)
		wantBelow = strings.HasPrefix(orderKey(a), orderKey(b))
	}
	if n, ok := impl.CompareNames(a, b); ok != good || n != wantCompare {
		t.Errorf("CompareNames(%q, %q) = %d, %v", a, b, n, ok)
	}
	if below, ok := impl.IsBelow(a, b); ok != good || below != wantBelow {
		t.Errorf("IsBelow(%q, %q) = %v, %v", a, b, below, ok)
	}
	if common, ok := impl.CommonOf(a, b); ok != good || !ok && common != "" {
		t.Errorf("CommonOf(%q, %q) = %q, %v", a, b, common, ok)
	}
}

func checkList(t *testing.T, l []string) {
	good := len(l) <= 60
	for _, s := range l {
		good = good && wantGood(s)
	}
	sorted, ok := impl.SortNames(l)
	if ok != good || !ok && len(sorted) != 0 || !slices.IsSortedFunc(sorted, wantOrder) {
		t.Errorf("SortNames(%q) = %q, %v", l, sorted, ok)
	}
	for _, s := range l {
		if ok && !slices.Contains(sorted, s) {
			t.Errorf("SortNames(%q) has lost %q", l, s)
		}
	}
	whole := strings.Join(l, ".")
	wantName := wantGood(whole) && (len(l) == 0) == (whole == "") && strings.Count(whole, ".") == max(len(l)-1, 0)
	if name, ok := impl.NameOf(l); ok != wantName || ok && name != whole || !ok && name != "" {
		t.Errorf("NameOf(%q) = %q, %v", l, name, ok)
	}
}

func TestEveryFunctionAnswersAtAnyArguments(t *testing.T) {
	r := rand.New(rand.NewSource(1))
	for range 20000 {
		a, b := randomText(r), randomText(r)
		if r.Intn(3) == 0 {
			b = a[r.Intn(len(a)+1):]
		}
		checkOneText(t, a)
		checkTwoTexts(t, a, b)
		checkTwoTexts(t, b, a)
		l := make([]string, r.Intn(12))
		for i := range l {
			l[i] = randomText(r)
		}
		checkList(t, l)
		checkList(t, strings.Split(a, "."))
	}
	for _, s := range append(goodNames(), badNames()...) {
		checkOneText(t, s)
	}
}
