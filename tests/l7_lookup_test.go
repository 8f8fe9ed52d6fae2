package tests

import (
	"fmt"
	"math"
	"math/rand"
	"slices"
	"strings"
	"testing"

	"loop.example/g00300/impl"
)

// recordsFrom reads records by their texts.
func recordsFrom(t *testing.T, texts ...string) []impl.Record {
	t.Helper()
	var l []impl.Record
	for _, s := range texts {
		r, ok := wantRecordFrom(s)
		if !ok {
			t.Fatalf("%q is no record", s)
		}
		l = append(l, r)
	}
	return l
}

// zoneWith is a good zone with these records, told in any order, beside its TypeSoa record.
func zoneWith(t *testing.T, apex string, texts ...string) impl.Zone {
	t.Helper()
	z := zoneOf(apex, 7, recordsFrom(t, texts...)...)
	if !wantGoodZone(z) {
		t.Fatalf("%s is not good", shown(z))
	}
	return z
}

func textsFrom(l []impl.Record) []string {
	var texts []string
	for _, r := range l {
		s, _ := wantRecordText(r)
		texts = append(texts, s)
	}
	return texts
}

// wantFoundIs asks for a Found by the texts of its records.
func wantFoundIs(t *testing.T, z impl.Zone, name string, kind int, found int, owner string, texts ...string) {
	t.Helper()
	got, ok := impl.LookUp(z, name, kind)
	if !ok || got.Kind != found || got.Owner != owner || !slices.Equal(textsFrom(got.Records), texts) || len(got.Chain) != 0 {
		t.Errorf("LookUp(%q, %d) = %s, %v; want %d, %q, %q", name, kind, shown(got), ok, found, owner, texts)
	}
}

// wantFoundAtAll asks for one answer to all types but TypeSoa.
func wantFoundAtAll(t *testing.T, z impl.Zone, name string, found int, owner string, texts ...string) {
	t.Helper()
	for _, kind := range []int{1, 2, 5, 15, 16} {
		wantFoundIs(t, z, name, kind, found, owner, texts...)
	}
}

func wantNoLookUp(t *testing.T, z impl.Zone, name string, kind int) {
	t.Helper()
	if got, ok := impl.LookUp(z, name, kind); !alikeFounds(got, impl.Found{}) || ok {
		t.Errorf("LookUp(%.80q, %d) = %s, %v; want the zero answer", name, kind, shown(got), ok)
	}
	if got, ok := impl.ChaseIn(z, name, kind); !alikeFounds(got, impl.Found{}) || ok {
		t.Errorf("ChaseIn(%.80q, %d) = %s, %v; want the zero answer", name, kind, shown(got), ok)
	}
}

func wantThereIs(t *testing.T, z impl.Zone, there bool, names ...string) {
	t.Helper()
	for _, name := range names {
		if got, ok := impl.IsThere(z, name); got != there || !ok {
			t.Errorf("IsThere(%q) = %v, %v; want %v", name, got, ok, there)
		}
	}
}

func wantEnclosed(t *testing.T, z impl.Zone, encloser string, names ...string) {
	t.Helper()
	for _, name := range names {
		if got, ok := impl.EncloserOf(z, name); got != encloser || !ok {
			t.Errorf("EncloserOf(%q) = %q, %v; want %q", name, got, ok, encloser)
		}
	}
}

func wantNotEnclosed(t *testing.T, z impl.Zone, names ...string) {
	t.Helper()
	for _, name := range names {
		if got, ok := impl.EncloserOf(z, name); got != "" || ok {
			t.Errorf("EncloserOf(%.80q) = %q, %v; want the zero answer", name, got, ok)
		}
	}
}

func wantCutIs(t *testing.T, z impl.Zone, cut string, names ...string) {
	t.Helper()
	for _, name := range names {
		if got, ok := impl.CutAbove(z, name); got != cut || !ok {
			t.Errorf("CutAbove(%q) = %q, %v; want %q", name, got, ok, cut)
		}
	}
}

func wantNoCut(t *testing.T, z impl.Zone, names ...string) {
	t.Helper()
	for _, name := range names {
		if got, ok := impl.CutAbove(z, name); got != "" || ok {
			t.Errorf("CutAbove(%.80q) = %q, %v; want none", name, got, ok)
		}
	}
}

func wantGlueIs(t *testing.T, z impl.Zone, l []impl.Record, texts ...string) {
	t.Helper()
	if got, ok := impl.GlueFor(z, l); !slices.Equal(textsFrom(got), texts) || !ok {
		t.Errorf("GlueFor(%s) = %s, %v; want %q", shown(l), shown(got), ok, texts)
	}
}

func wantNoGlue(t *testing.T, z impl.Zone, l []impl.Record) {
	t.Helper()
	if got, ok := impl.GlueFor(z, l); len(got) != 0 || ok {
		t.Errorf("GlueFor(%s) = %s, %v; want the zero answer", shown(l), shown(got), ok)
	}
}

func TestTheConstantsOfLookups(t *testing.T) {
	if got := []int{impl.FoundData, impl.FoundCname, impl.FoundCut, impl.FoundNone, impl.FoundNoName, impl.FoundNot}; !slices.Equal(got, []int{1, 2, 3, 4, 5, 6}) {
		t.Error(got)
	}
}

func TestLookupsInZonesThatAreNotGood(t *testing.T) {
	good := zoneWith(t, "ex.com", "a.ex.com 60 1 1.1.1.1", "b.ex.com 60 5 a.ex.com", "c.ex.com 60 2 ns.c.ex.com")
	zones := []impl.Zone{{}, {Apex: "ex.com"}, {Apex: "ex.com", Counter: 7}, {Records: good.Records, Counter: 7}, {Apex: "ex.com", Records: good.Records}, fullZone(41, 1)}
	for _, l := range [][]impl.Record{
		good.Records[1:], append(slices.Clone(good.Records), good.Records[1]), append(slices.Clone(good.Records), addressOf("ex.net", 1)),
		inOrder(append(slices.Clone(good.Records), addressOf("b.ex.com", 1))...), inOrder(append(slices.Clone(good.Records), noteOf("x.c.ex.com", "x"))...),
		inOrder(append(slices.Clone(good.Records), soaOf("a.ex.com", 7))...), {{}, {}}, make([]impl.Record, 1000),
	} {
		zones = append(zones, impl.Zone{Apex: "ex.com", Counter: 7, Records: l})
	}
	for _, apex := range []string{"*.ex.com", "*", ".", "Ex.com", "com", "a.ex.com", "ex..com", strings.Repeat("a.", 1<<16)} {
		zones = append(zones, impl.Zone{Apex: apex, Counter: 7, Records: good.Records})
	}
	for _, counter := range []int{-1, 0, 6, 8, mostCounter + 1, math.MinInt, math.MaxInt} {
		zones = append(zones, impl.Zone{Apex: "ex.com", Counter: counter, Records: good.Records})
	}
	for _, z := range zones {
		for _, name := range []string{"ex.com", "a.ex.com", "b.ex.com", "x.c.ex.com", "none.ex.com", "com", "", "ex.net", ".", z.Apex} {
			for _, kind := range append([]int{0, 7}, sixTypes...) {
				wantNoLookUp(t, z, name, kind)
			}
			if got, ok := impl.IsThere(z, name); got || ok {
				t.Errorf("IsThere(%s, %.80q) = %v, %v", shown(z), name, got, ok)
			}
			wantNotEnclosed(t, z, name)
			wantNoCut(t, z, name)
		}
		wantNoGlue(t, z, nil)
		wantNoGlue(t, z, recordsFrom(t, "c.ex.com 60 2 a.ex.com"))
	}
}

func TestLookupsOfWhatIsNoName(t *testing.T) {
	for _, z := range []impl.Zone{
		zoneWith(t, "ex.com", "*.ex.com 60 1 1.1.1.1", "*.ex.com 60 16 x", "a.ex.com 60 1 1.1.1.1"),
		zoneWith(t, "", "* 60 1 1.1.1.1", "a 60 1 1.1.1.1", "com 60 2 ns.com"),
	} {
		for _, name := range append(badNames(), "A.ex.com", "a..ex.com", ".ex.com", "a.ex.com.", "a*.ex.com", labels8+".ex.com", "a b.ex.com", "a.Com") {
			for _, kind := range sixTypes {
				wantNoLookUp(t, z, name, kind)
			}
			if got, ok := impl.IsThere(z, name); got || ok {
				t.Errorf("IsThere(%.80q) = %v, %v", name, got, ok)
			}
			wantNotEnclosed(t, z, name)
			wantNoCut(t, z, name)
		}
	}
}

func TestLookupsOfNamesThatAreNotBelowTheApex(t *testing.T) {
	z := zoneWith(t, "ex.com", "ex.com 60 2 ns.ex.com", "*.ex.com 60 1 1.1.1.1", "c.ex.com 60 2 ns.ex.com")
	outside := []string{"", "com", "ex.net", "net", "aex.com", "x.com", "*.com", "*", "a.ex.com.net", "ex", "c.com", "a.ex", name60}
	for _, name := range outside {
		wantFoundAtAll(t, z, name, impl.FoundNot, "")
		for _, kind := range []int{1, 2, 5, 15, 16} {
			if got, ok := impl.ChaseIn(z, name, kind); !alikeFounds(got, impl.Found{Kind: impl.FoundNot}) || !ok {
				t.Errorf("ChaseIn(%q, %d) = %s, %v", name, kind, shown(got), ok)
			}
		}
	}
	wantNotEnclosed(t, z, outside...)
	wantNoCut(t, z, outside...)
	// The apex is below these, and has a record.
	wantThereIs(t, z, true, "", "com")
	wantThereIs(t, z, false, outside[2:]...)
}

func TestTypesOfLookups(t *testing.T) {
	z := zoneWith(t, "ex.com", "a.ex.com 60 1 1.1.1.1", "*.ex.com 60 16 x", "b.ex.com 60 5 a.ex.com", "c.ex.com 60 2 ns.ex.com", "e.d.ex.com 60 1 1.1.1.1")
	names := []string{"ex.com", "a.ex.com", "b.ex.com", "c.ex.com", "x.c.ex.com", "d.ex.com", "x.d.ex.com", "x.ex.com", "*.ex.com", "com", "", "ex.net"}
	for _, name := range names {
		for _, kind := range []int{0, -1, 3, 4, 7, 14, 17, 255, 256, 257, 261, allSerials + 1, math.MinInt, math.MinInt + 1, math.MaxInt - 1, math.MaxInt} {
			wantNoLookUp(t, z, name, kind)
		}
	}
	// TypeSoa is asked for at the apex alone, whatever the name would tell else.
	for _, name := range names[1:] {
		wantNoLookUp(t, z, name, impl.TypeSoa)
	}
	wantFoundIs(t, z, "ex.com", impl.TypeSoa, impl.FoundData, "ex.com", "ex.com 60 6 7")
	root := zoneWith(t, "", "com 60 1 1.1.1.1")
	wantFoundIs(t, root, "", impl.TypeSoa, impl.FoundData, "", ". 60 6 7")
	wantNoLookUp(t, root, "com", impl.TypeSoa)
	wantNoLookUp(t, root, "*", impl.TypeSoa)
}

func TestNamesThatAreThere(t *testing.T) {
	z := zoneWith(t, "ex.com", "a.ex.com 60 1 1.1.1.1", "d.c.b.ex.com 60 16 x", "y.*.x.ex.com 60 1 1.1.1.1", "*.w.ex.com 60 1 1.1.1.1", "s.ex.com 60 2 ns.t.s.ex.com", "ns.t.s.ex.com 60 1 1.1.1.1")
	wantThereIs(t, z, true, "ex.com", "a.ex.com", "d.c.b.ex.com", "c.b.ex.com", "b.ex.com", "x.ex.com", "*.x.ex.com", "y.*.x.ex.com", "w.ex.com", "*.w.ex.com")
	// Below a cut, too: what counts is what the zone has.
	wantThereIs(t, z, true, "s.ex.com", "t.s.ex.com", "ns.t.s.ex.com")
	wantThereIs(t, z, false, "b.a.ex.com", "aa.ex.com", "c.ex.com", "d.ex.com", "e.d.c.b.ex.com", "d.b.ex.com", "dc.b.ex.com", "*.ex.com", "*.a.ex.com", "y.x.ex.com", "q.w.ex.com", "u.s.ex.com", "b.ex.net", "a", "*")
	wantThereIs(t, zoneOf("ex.com", 0), true, "ex.com")
	wantThereIs(t, zoneOf("ex.com", 0), false, "a.ex.com", "*.ex.com", "ex.net", "x.com")
	wantThereIs(t, zoneOf("", 0), true, "")
	wantThereIs(t, zoneOf("", 0), false, "com", "*", name60, labels8)
	full := fullZone(40, 0)
	wantThereIs(t, full, true, "n00.ex.com", "n38.ex.com")
	wantThereIs(t, full, false, "n39.ex.com")
}

func TestEnclosers(t *testing.T) {
	z := zoneWith(t, "ex.com", "a.ex.com 60 1 1.1.1.1", "d.c.b.ex.com 60 16 x", "*.w.ex.com 60 1 1.1.1.1", "s.ex.com 60 2 ns.t.s.ex.com", "ns.t.s.ex.com 60 1 1.1.1.1")
	for _, name := range []string{"ex.com", "a.ex.com", "d.c.b.ex.com", "c.b.ex.com", "b.ex.com", "w.ex.com", "*.w.ex.com", "s.ex.com", "t.s.ex.com"} {
		wantEnclosed(t, z, name, name, "q."+name, "*.q."+name, "o.p.q."+name)
	}
	wantEnclosed(t, z, "ex.com", "aa.ex.com", "x.aa.ex.com", "*.ex.com", "a.b.c.d.e.f.ex.com", "c.ex.com", "d.ex.com", "ns.ex.com")
	wantEnclosed(t, z, "b.ex.com", "d.b.ex.com", "dc.b.ex.com", "d.cc.b.ex.com")
	wantEnclosed(t, z, "w.ex.com", "v.w.ex.com", "u.v.w.ex.com")
	root := zoneWith(t, "", "b.a 60 1 1.1.1.1")
	wantEnclosed(t, root, "", "", "b", "c", "*", "c.b", "aa", name60)
	wantEnclosed(t, root, "a", "a", "c.a", "*.a", "e.d.c.a")
	wantEnclosed(t, root, "b.a", "b.a", "c.b.a")
	deep := zoneOf("h", 0, addressOf(labels8, 1))
	wantEnclosed(t, deep, labels8, labels8)
	wantEnclosed(t, deep, labels8[2:], labels8[2:], "b."+labels8[2:], "*."+labels8[2:])
}

func TestCuts(t *testing.T) {
	z := zoneWith(t, "ex.com", "ex.com 60 2 ns.ex.com", "ex.com 60 2 ns.other", "s.ex.com 60 2 ns.s.ex.com", "s.ex.com 60 2 ns.other", "ns.s.ex.com 60 1 1.1.1.1", "v.u.ex.com 60 2 ns.other", "*.w.ex.com 60 2 ns.other", "a.ex.com 60 1 1.1.1.1")
	// TypeNS at the apex is no cut.
	wantNoCut(t, z, "ex.com", "a.ex.com", "x.a.ex.com", "none.ex.com", "ns.ex.com", "*.ex.com")
	wantCutIs(t, z, "s.ex.com", "s.ex.com", "ns.s.ex.com", "x.s.ex.com", "*.s.ex.com", "q.r.x.s.ex.com", "*.ns.s.ex.com")
	wantNoCut(t, z, "ss.ex.com", "as.ex.com", "s.a.ex.com", "u.ex.com", "x.u.ex.com", "v.ex.com", "vv.u.ex.com", "w.ex.com")
	wantCutIs(t, z, "v.u.ex.com", "v.u.ex.com", "x.v.u.ex.com", "y.x.v.u.ex.com")
	// A star is a cut of what is below the star alone.
	wantCutIs(t, z, "*.w.ex.com", "*.w.ex.com", "x.*.w.ex.com", "*.*.w.ex.com")
	wantNoCut(t, z, "x.w.ex.com", "y.x.w.ex.com")
	root := zoneWith(t, "", ". 60 2 ns", "com 60 2 ns.com", "ns.com 60 1 1.1.1.1")
	wantNoCut(t, root, "", "net", "*", "com.net")
	wantCutIs(t, root, "com", "com", "ns.com", "a.b.c.com", "*.com")
}

func TestLookupsAtCuts(t *testing.T) {
	z := zoneWith(t, "ex.com", "s.ex.com 60 2 ns.s.ex.com", "s.ex.com 60 2 ns.other", "s.ex.com 60 1 2.2.2.2", "ns.s.ex.com 60 1 1.1.1.1", "*.s.ex.com 60 1 3.3.3.3", "*.ex.com 60 1 9.9.9.9", "y.t.s.ex.com 60 1 4.4.4.4")
	cut := []string{"s.ex.com 60 2 ns.s.ex.com", "s.ex.com 60 2 ns.other"}
	for _, name := range []string{"s.ex.com", "ns.s.ex.com", "*.s.ex.com", "x.s.ex.com", "t.s.ex.com", "y.t.s.ex.com", "x.t.s.ex.com", "q.r.s.ex.com"} {
		wantFoundAtAll(t, z, name, impl.FoundCut, "s.ex.com", cut...)
	}
	wantFoundIs(t, z, "ss.ex.com", 1, impl.FoundData, "*.ex.com", "ss.ex.com 60 1 9.9.9.9")
	// TypeNS at the apex is told as data.
	apex := zoneWith(t, "ex.com", "ex.com 50 2 ns.ex.com", "a.ex.com 60 1 1.1.1.1")
	wantFoundIs(t, apex, "ex.com", 2, impl.FoundData, "ex.com", "ex.com 50 2 ns.ex.com")
	wantFoundIs(t, apex, "ex.com", 1, impl.FoundNone, "ex.com")
	wantFoundIs(t, apex, "a.ex.com", 2, impl.FoundNone, "a.ex.com")
	wantFoundIs(t, apex, "b.ex.com", 2, impl.FoundNoName, "ex.com")
	root := zoneWith(t, "", ". 60 2 ns", "com 60 2 ns.com", "ns.com 60 1 1.1.1.1", "* 60 1 9.9.9.9")
	wantFoundAtAll(t, root, "com", impl.FoundCut, "com", "com 60 2 ns.com")
	wantFoundAtAll(t, root, "ns.com", impl.FoundCut, "com", "com 60 2 ns.com")
	wantFoundIs(t, root, "", 2, impl.FoundData, "", ". 60 2 ns")
}

// A star that has TypeNS records is a cut at its own name, and gives them as data to the names in whose place it stands.
func TestStarsThatAreCuts(t *testing.T) {
	z := zoneWith(t, "ex.com", "*.ex.com 60 2 ns.other", "*.ex.com 60 1 1.1.1.1", "x.*.ex.com 60 1 2.2.2.2")
	wantFoundAtAll(t, z, "*.ex.com", impl.FoundCut, "*.ex.com", "*.ex.com 60 2 ns.other")
	wantFoundAtAll(t, z, "x.*.ex.com", impl.FoundCut, "*.ex.com", "*.ex.com 60 2 ns.other")
	wantFoundIs(t, z, "q.ex.com", 2, impl.FoundData, "*.ex.com", "q.ex.com 60 2 ns.other")
	wantFoundIs(t, z, "q.ex.com", 1, impl.FoundData, "*.ex.com", "q.ex.com 60 1 1.1.1.1")
	wantFoundIs(t, z, "q.ex.com", 16, impl.FoundNone, "*.ex.com")
}

func TestLookupsOfOwnRecords(t *testing.T) {
	z := zoneWith(t, "ex.com", "ex.com 9 15 10 a.ex.com", "a.ex.com 8 1 1.1.1.10", "a.ex.com 8 1 1.1.1.9", "a.ex.com 7 16 x", "b.ex.com 60 5 a.ex.com", "d.c.ex.com 60 1 1.1.1.1", "*.ex.com 60 16 star")
	wantFoundIs(t, z, "a.ex.com", 1, impl.FoundData, "a.ex.com", "a.ex.com 8 1 1.1.1.9", "a.ex.com 8 1 1.1.1.10")
	wantFoundIs(t, z, "a.ex.com", 16, impl.FoundData, "a.ex.com", "a.ex.com 7 16 x")
	wantFoundIs(t, z, "a.ex.com", 15, impl.FoundNone, "a.ex.com")
	wantFoundIs(t, z, "a.ex.com", 5, impl.FoundNone, "a.ex.com")
	wantFoundIs(t, z, "a.ex.com", 2, impl.FoundNone, "a.ex.com")
	wantFoundIs(t, z, "ex.com", 15, impl.FoundData, "ex.com", "ex.com 9 15 10 a.ex.com")
	// No star stands for a name that is there, not even for a type that it has not.
	wantFoundIs(t, z, "ex.com", 16, impl.FoundNone, "ex.com")
	wantFoundIs(t, z, "ex.com", 5, impl.FoundNone, "ex.com")
	wantFoundIs(t, z, "d.c.ex.com", 16, impl.FoundNone, "d.c.ex.com")
	// A TypeCname record is told where other types are asked for, and is data itself.
	for _, kind := range []int{1, 2, 15, 16} {
		wantFoundIs(t, z, "b.ex.com", kind, impl.FoundCname, "b.ex.com", "b.ex.com 60 5 a.ex.com")
	}
	wantFoundIs(t, z, "b.ex.com", 5, impl.FoundData, "b.ex.com", "b.ex.com 60 5 a.ex.com")
	// A name that is there for others alone has none; what is not there below it is not told by the star further up.
	wantFoundAtAll(t, z, "c.ex.com", impl.FoundNone, "c.ex.com")
	wantFoundAtAll(t, z, "x.c.ex.com", impl.FoundNoName, "c.ex.com")
	wantFoundAtAll(t, z, "y.x.c.ex.com", impl.FoundNoName, "c.ex.com")
	wantFoundAtAll(t, z, "x.a.ex.com", impl.FoundNoName, "a.ex.com")
	wantFoundAtAll(t, z, "*.a.ex.com", impl.FoundNoName, "a.ex.com")
	wantFoundAtAll(t, z, "x.b.ex.com", impl.FoundNoName, "b.ex.com")
	wantFoundAtAll(t, z, "x.d.c.ex.com", impl.FoundNoName, "d.c.ex.com")
	bare := zoneOf("ex.com", 0)
	wantFoundAtAll(t, bare, "ex.com", impl.FoundNone, "ex.com")
	wantFoundAtAll(t, bare, "a.ex.com", impl.FoundNoName, "ex.com")
	wantFoundAtAll(t, bare, "*.ex.com", impl.FoundNoName, "ex.com")
	wantFoundAtAll(t, bare, "c.b.a.ex.com", impl.FoundNoName, "ex.com")
	root := zoneWith(t, "", ". 60 1 1.1.1.1", "b.a 60 1 2.2.2.2")
	wantFoundIs(t, root, "", 1, impl.FoundData, "", ". 60 1 1.1.1.1")
	wantFoundIs(t, root, "", 16, impl.FoundNone, "")
	wantFoundAtAll(t, root, "a", impl.FoundNone, "a")
	wantFoundAtAll(t, root, "c", impl.FoundNoName, "")
	wantFoundAtAll(t, root, "*", impl.FoundNoName, "")
	wantFoundAtAll(t, root, "c.a", impl.FoundNoName, "a")
}

func TestLookupsByStars(t *testing.T) {
	z := zoneWith(t, "ex.com", "*.ex.com 8 1 1.1.1.10", "*.ex.com 8 1 1.1.1.9", "*.ex.com 7 16 x", "a.ex.com 60 1 2.2.2.2", "*.a.ex.com 60 1 3.3.3.3", "d.c.ex.com 60 1 4.4.4.4")
	for _, name := range []string{"q.ex.com", "r.q.ex.com", "t.s.r.q.ex.com", "aa.ex.com", "d.ex.com", "*.q.ex.com"} {
		wantFoundIs(t, z, name, 1, impl.FoundData, "*.ex.com", name+" 8 1 1.1.1.9", name+" 8 1 1.1.1.10")
		wantFoundIs(t, z, name, 16, impl.FoundData, "*.ex.com", name+" 7 16 x")
		for _, kind := range []int{2, 5, 15} {
			wantFoundIs(t, z, name, kind, impl.FoundNone, "*.ex.com")
		}
	}
	// The star next above what is there, not the one further up.
	wantFoundIs(t, z, "q.a.ex.com", 1, impl.FoundData, "*.a.ex.com", "q.a.ex.com 60 1 3.3.3.3")
	wantFoundIs(t, z, "r.q.a.ex.com", 1, impl.FoundData, "*.a.ex.com", "r.q.a.ex.com 60 1 3.3.3.3")
	wantFoundIs(t, z, "q.a.ex.com", 16, impl.FoundNone, "*.a.ex.com")
	wantFoundAtAll(t, z, "q.c.ex.com", impl.FoundNoName, "c.ex.com")
	wantFoundAtAll(t, z, "q.d.c.ex.com", impl.FoundNoName, "d.c.ex.com")
	// A star's own name has its records, what is below it asks for a star of its own.
	wantFoundIs(t, z, "*.ex.com", 1, impl.FoundData, "*.ex.com", "*.ex.com 8 1 1.1.1.9", "*.ex.com 8 1 1.1.1.10")
	wantFoundIs(t, z, "*.ex.com", 15, impl.FoundNone, "*.ex.com")
	wantFoundAtAll(t, z, "q.*.ex.com", impl.FoundNoName, "*.ex.com")
	wantFoundAtAll(t, z, "*.*.ex.com", impl.FoundNoName, "*.ex.com")
	double := zoneWith(t, "ex.com", "*.ex.com 60 1 1.1.1.1", "*.*.ex.com 60 1 2.2.2.2")
	wantFoundIs(t, double, "q.*.ex.com", 1, impl.FoundData, "*.*.ex.com", "q.*.ex.com 60 1 2.2.2.2")
	wantFoundIs(t, double, "r.q.*.ex.com", 1, impl.FoundData, "*.*.ex.com", "r.q.*.ex.com 60 1 2.2.2.2")
	wantFoundIs(t, double, "q.ex.com", 1, impl.FoundData, "*.ex.com", "q.ex.com 60 1 1.1.1.1")
	wantFoundIs(t, double, "r.q.ex.com", 1, impl.FoundData, "*.ex.com", "r.q.ex.com 60 1 1.1.1.1")
}

func TestStarsOfOtherKinds(t *testing.T) {
	lead := zoneWith(t, "ex.com", "*.ex.com 60 5 a.ex.com", "a.ex.com 60 1 1.1.1.1")
	for _, kind := range []int{1, 2, 15, 16} {
		wantFoundIs(t, lead, "q.ex.com", kind, impl.FoundCname, "*.ex.com", "q.ex.com 60 5 a.ex.com")
		wantFoundIs(t, lead, "*.ex.com", kind, impl.FoundCname, "*.ex.com", "*.ex.com 60 5 a.ex.com")
	}
	wantFoundIs(t, lead, "q.ex.com", 5, impl.FoundData, "*.ex.com", "q.ex.com 60 5 a.ex.com")
	// A star that is there for others alone stands for names, and has nothing to tell of them.
	empty := zoneWith(t, "ex.com", "x.*.ex.com 60 1 1.1.1.1")
	wantFoundAtAll(t, empty, "q.ex.com", impl.FoundNone, "*.ex.com")
	wantFoundAtAll(t, empty, "x.q.ex.com", impl.FoundNone, "*.ex.com")
	wantFoundAtAll(t, empty, "*.ex.com", impl.FoundNone, "*.ex.com")
	wantFoundAtAll(t, empty, "y.*.ex.com", impl.FoundNoName, "*.ex.com")
	wantFoundIs(t, empty, "x.*.ex.com", 1, impl.FoundData, "x.*.ex.com", "x.*.ex.com 60 1 1.1.1.1")
	// A star as a label between others is none for names.
	inner := zoneWith(t, "ex.com", "*.a.*.ex.com 60 1 1.1.1.1")
	wantFoundAtAll(t, inner, "x.a.q.ex.com", impl.FoundNone, "*.ex.com")
	wantFoundIs(t, inner, "x.a.*.ex.com", 1, impl.FoundData, "*.a.*.ex.com", "x.a.*.ex.com 60 1 1.1.1.1")
	root := zoneWith(t, "", "* 60 1 1.1.1.1", "com 60 16 x")
	wantFoundIs(t, root, "net", 1, impl.FoundData, "*", "net 60 1 1.1.1.1")
	wantFoundIs(t, root, "a.b.net", 1, impl.FoundData, "*", "a.b.net 60 1 1.1.1.1")
	wantFoundIs(t, root, name60, 1, impl.FoundData, "*", name60+" 60 1 1.1.1.1")
	wantFoundIs(t, root, "net", 16, impl.FoundNone, "*")
	wantFoundIs(t, root, "*", 1, impl.FoundData, "*", "* 60 1 1.1.1.1")
	wantFoundIs(t, root, "", 1, impl.FoundNone, "")
	wantFoundAtAll(t, root, "a.com", impl.FoundNoName, "com")
	deep := zoneWith(t, "ex.com", "com.*.ex.com 60 1 1.1.1.1", "*.b.a.ex.com 60 1 1.1.1.1")
	wantFoundAtAll(t, deep, "q.a.ex.com", impl.FoundNoName, "a.ex.com")
	wantFoundAtAll(t, deep, "q.ex.com", impl.FoundNone, "*.ex.com")
}

// wantChased asks for the last Found beside the chain ahead of it.
func wantChased(t *testing.T, z impl.Zone, name string, kind int, chain []string, found int, owner string, texts ...string) {
	t.Helper()
	got, ok := impl.ChaseIn(z, name, kind)
	if !ok || got.Kind != found || got.Owner != owner || !slices.Equal(textsFrom(got.Records), texts) || !slices.Equal(textsFrom(got.Chain), chain) {
		t.Errorf("ChaseIn(%q, %d) = %s, %v; want %q, %d, %q, %q", name, kind, shown(got), ok, chain, found, owner, texts)
	}
}

// leadTexts are records of which each name leads to the next one.
func leadTexts(many int) []string {
	var l []string
	for i := range many {
		l = append(l, fmt.Sprintf("n%02d.ex.com 60 5 n%02d.ex.com", i, i+1))
	}
	return l
}

func TestChases(t *testing.T) {
	z := zoneWith(t, "ex.com", "a.ex.com 60 1 1.1.1.1", "b.ex.com 60 5 a.ex.com", "c.ex.com 60 5 b.ex.com", "n.ex.com 60 5 none.ex.com", "o.ex.com 60 5 ns.other", "p.ex.com 60 5 com",
		"s.ex.com 60 2 ns.s.ex.com", "ns.s.ex.com 60 1 2.2.2.2", "t.ex.com 60 5 ns.s.ex.com", "u.ex.com 60 5 s.ex.com", "x.w.ex.com 60 1 3.3.3.3", "v.ex.com 60 5 w.ex.com", "e.ex.com 60 5 ex.com")
	b, c := "b.ex.com 60 5 a.ex.com", "c.ex.com 60 5 b.ex.com"
	wantChased(t, z, "a.ex.com", 1, nil, impl.FoundData, "a.ex.com", "a.ex.com 60 1 1.1.1.1")
	wantChased(t, z, "a.ex.com", 16, nil, impl.FoundNone, "a.ex.com")
	wantChased(t, z, "none.ex.com", 1, nil, impl.FoundNoName, "ex.com")
	wantChased(t, z, "com", 1, nil, impl.FoundNot, "")
	wantChased(t, z, "ns.s.ex.com", 1, nil, impl.FoundCut, "s.ex.com", "s.ex.com 60 2 ns.s.ex.com")
	wantChased(t, z, "b.ex.com", 1, []string{b}, impl.FoundData, "a.ex.com", "a.ex.com 60 1 1.1.1.1")
	wantChased(t, z, "b.ex.com", 16, []string{b}, impl.FoundNone, "a.ex.com")
	wantChased(t, z, "c.ex.com", 1, []string{c, b}, impl.FoundData, "a.ex.com", "a.ex.com 60 1 1.1.1.1")
	// Where TypeCname itself is asked for nothing is followed.
	wantChased(t, z, "c.ex.com", 5, nil, impl.FoundData, "c.ex.com", c)
	wantChased(t, z, "n.ex.com", 1, []string{"n.ex.com 60 5 none.ex.com"}, impl.FoundNoName, "ex.com")
	wantChased(t, z, "o.ex.com", 1, []string{"o.ex.com 60 5 ns.other"}, impl.FoundNot, "")
	wantChased(t, z, "p.ex.com", 1, []string{"p.ex.com 60 5 com"}, impl.FoundNot, "")
	wantChased(t, z, "t.ex.com", 1, []string{"t.ex.com 60 5 ns.s.ex.com"}, impl.FoundCut, "s.ex.com", "s.ex.com 60 2 ns.s.ex.com")
	wantChased(t, z, "u.ex.com", 15, []string{"u.ex.com 60 5 s.ex.com"}, impl.FoundCut, "s.ex.com", "s.ex.com 60 2 ns.s.ex.com")
	wantChased(t, z, "v.ex.com", 1, []string{"v.ex.com 60 5 w.ex.com"}, impl.FoundNone, "w.ex.com")
	wantChased(t, z, "e.ex.com", 1, []string{"e.ex.com 60 5 ex.com"}, impl.FoundNone, "ex.com")
	wantChased(t, z, "ex.com", 6, nil, impl.FoundData, "ex.com", "ex.com 60 6 7")
	for _, name := range []string{"b.ex.com", "e.ex.com", "com", "none.ex.com"} {
		wantNoLookUp(t, z, name, 6)
	}
}

// Eight records are followed at most; what is told of a ninth one is the last.
func TestLongChases(t *testing.T) {
	for many := range 13 {
		all := leadTexts(many)
		last := fmt.Sprintf("n%02d.ex.com", many)
		z := zoneWith(t, "ex.com", append(slices.Clone(all), last+" 60 1 1.1.1.1")...)
		bare := zoneWith(t, "ex.com", all...)
		if many <= 8 {
			wantChased(t, z, "n00.ex.com", 1, all, impl.FoundData, last, last+" 60 1 1.1.1.1")
			wantChased(t, z, "n00.ex.com", 16, all, impl.FoundNone, last)
			wantChased(t, bare, "n00.ex.com", 1, all, impl.FoundNoName, "ex.com")
			continue
		}
		wantChased(t, z, "n00.ex.com", 1, all[:8], impl.FoundCname, "n08.ex.com", all[8])
		wantChased(t, bare, "n00.ex.com", 1, all[:8], impl.FoundCname, "n08.ex.com", all[8])
		from := fmt.Sprintf("n%02d.ex.com", many-8)
		wantChased(t, z, from, 1, all[many-8:], impl.FoundData, last, last+" 60 1 1.1.1.1")
	}
	for _, many := range []int{7, 8, 9} {
		all := leadTexts(many)
		all[many-1] = fmt.Sprintf("n%02d.ex.com 60 5 out.net", many-1)
		if z := zoneWith(t, "ex.com", all...); many < 9 {
			wantChased(t, z, "n00.ex.com", 1, all, impl.FoundNot, "")
		} else {
			wantChased(t, z, "n00.ex.com", 1, all[:8], impl.FoundCname, "n08.ex.com", all[8])
		}
	}
}

func TestChasesInACircle(t *testing.T) {
	for many := 1; many <= 10; many++ {
		all := leadTexts(many)
		all[many-1] = fmt.Sprintf("n%02d.ex.com 60 5 n00.ex.com", many-1)
		z := zoneWith(t, "ex.com", all...)
		var chain []string
		for i := range 8 {
			chain = append(chain, all[i%many])
		}
		last := all[8%many]
		wantChased(t, z, "n00.ex.com", 1, chain, impl.FoundCname, last[:10], last)
		wantChased(t, z, "n00.ex.com", 5, nil, impl.FoundData, "n00.ex.com", all[0])
	}
	// Outside the circle at first.
	z := zoneWith(t, "ex.com", "a.ex.com 60 5 b.ex.com", "b.ex.com 60 5 c.ex.com", "c.ex.com 60 5 b.ex.com")
	b, c := "b.ex.com 60 5 c.ex.com", "c.ex.com 60 5 b.ex.com"
	wantChased(t, z, "a.ex.com", 1, []string{"a.ex.com 60 5 b.ex.com", b, c, b, c, b, c, b}, impl.FoundCname, "c.ex.com", c)
}

func TestChasesByStars(t *testing.T) {
	z := zoneWith(t, "ex.com", "*.ex.com 60 1 1.1.1.1", "a.ex.com 60 5 q.ex.com", "*.b.ex.com 60 5 x.c.ex.com", "*.c.ex.com 60 5 a.ex.com", "d.ex.com 60 5 y.d.ex.com", "*.d.ex.com 60 5 z.d.ex.com")
	wantChased(t, z, "a.ex.com", 1, []string{"a.ex.com 60 5 q.ex.com"}, impl.FoundData, "*.ex.com", "q.ex.com 60 1 1.1.1.1")
	wantChased(t, z, "a.ex.com", 16, []string{"a.ex.com 60 5 q.ex.com"}, impl.FoundNone, "*.ex.com")
	// The chain has the name for which the star stood.
	wantChased(t, z, "w.v.b.ex.com", 1, []string{"w.v.b.ex.com 60 5 x.c.ex.com", "x.c.ex.com 60 5 a.ex.com", "a.ex.com 60 5 q.ex.com"}, impl.FoundData, "*.ex.com", "q.ex.com 60 1 1.1.1.1")
	same := "z.d.ex.com 60 5 z.d.ex.com"
	wantChased(t, z, "d.ex.com", 1, []string{"d.ex.com 60 5 y.d.ex.com", "y.d.ex.com 60 5 z.d.ex.com", same, same, same, same, same, same}, impl.FoundCname, "*.d.ex.com", same)
	root := zoneWith(t, "", "* 60 5 a.com", "a.com 60 1 1.1.1.1")
	wantChased(t, root, "net", 1, []string{"net 60 5 a.com"}, impl.FoundData, "a.com", "a.com 60 1 1.1.1.1")
	wantChased(t, root, "com", 1, nil, impl.FoundNone, "com")
}

func TestGlue(t *testing.T) {
	z := zoneWith(t, "ex.com", "ex.com 60 1 7.7.7.7", "ns.s.ex.com 60 1 1.1.1.10", "ns.s.ex.com 60 1 1.1.1.9", "s.ex.com 60 2 ns.s.ex.com", "mx.ex.com 50 1 2.2.2.2", "mx.ex.com 60 16 x", "note.ex.com 60 16 x", "lead.ex.com 60 5 mx.ex.com", "*.ex.com 60 1 9.9.9.9", "x.up.ex.com 60 1 3.3.3.3")
	ns := []string{"ns.s.ex.com 60 1 1.1.1.9", "ns.s.ex.com 60 1 1.1.1.10"}
	mx := "mx.ex.com 50 1 2.2.2.2"
	wantGlueIs(t, z, nil)
	wantGlueIs(t, z, []impl.Record{})
	wantGlueIs(t, z, recordsFrom(t, "s.ex.com 60 2 ns.s.ex.com"), ns...)
	wantGlueIs(t, z, recordsFrom(t, "ex.com 60 15 10 mx.ex.com"), mx)
	wantGlueIs(t, z, recordsFrom(t, "ex.com 60 2 ex.com"), "ex.com 60 1 7.7.7.7")
	// Name by name as the records stand, whatever the numbers of TypeMx and the order of names.
	wantGlueIs(t, z, recordsFrom(t, "a 60 15 9 ns.s.ex.com", "a 60 15 5 mx.ex.com"), ns[0], ns[1], mx)
	wantGlueIs(t, z, recordsFrom(t, "a 60 15 9 mx.ex.com", "a 60 2 ns.s.ex.com"), mx, ns[0], ns[1])
	wantGlueIs(t, z, recordsFrom(t, "a 60 2 mx.ex.com", "b 60 2 ex.com", "c 60 2 ns.s.ex.com"), mx, "ex.com 60 1 7.7.7.7", ns[0], ns[1])
	// Each name once, where it is led to first.
	wantGlueIs(t, z, recordsFrom(t, "a 60 2 mx.ex.com", "a 60 2 ns.s.ex.com", "a 60 2 mx.ex.com", "b 0 15 1 mx.ex.com", "b 0 15 2 ns.s.ex.com"), mx, ns[0], ns[1])
	wantGlueIs(t, z, recordsFrom(t, "a 60 2 ns.s.ex.com", "a 60 2 ns.s.ex.com"), ns...)
	// No star, no TypeCname record and no cut is followed; what is outside has none.
	for _, host := range []string{"none.ex.com", "note.ex.com", "lead.ex.com", "up.ex.com", "y.s.ex.com", "s.ex.com", "com", "ex.net", "mx.ex.net", "mx", "x.mx.ex.com"} {
		wantGlueIs(t, z, recordsFrom(t, "a 60 2 "+host))
		wantGlueIs(t, z, recordsFrom(t, "a 60 2 "+host, "a 60 15 0 mx.ex.com", "a 60 15 0 "+host), mx)
	}
}

func TestHowManyAreAskedForGlue(t *testing.T) {
	z := zoneWith(t, "ex.com", "a.ex.com 60 1 1.1.1.1", "b.ex.com 60 1 2.2.2.2")
	one := recordsFrom(t, "x 60 2 a.ex.com")
	wantGlueIs(t, z, slices.Repeat(one, 12), "a.ex.com 60 1 1.1.1.1")
	wantNoGlue(t, z, slices.Repeat(one, 13))
	wantNoGlue(t, z, slices.Repeat(one, 5000))
	wantNoGlue(t, z, make([]impl.Record, 12))
	full := fullZone(40, 7)
	var l []impl.Record
	var texts []string
	for i := range 13 {
		l = append(l, hostOf("x", 2+13*(i%2), []string{"", "5 "}[i%2]+fmt.Sprintf("n%02d.ex.com", 38-i)))
		texts = append(texts, fmt.Sprintf("n%02d.ex.com 60 1 1.2.3.%d", 38-i, 38-i))
	}
	for many := range 13 {
		wantGlueIs(t, full, l[:many], texts[:many]...)
	}
	wantNoGlue(t, full, l)
	big := zoneOf("ex.com", 7)
	for i := range 39 {
		big.Records = append(big.Records, addressOf("a.ex.com", i))
	}
	wantGlueIs(t, big, one, textsFrom(big.Records[1:])...)
}

func TestGlueForWhatIsNotAsSaid(t *testing.T) {
	z := zoneWith(t, "ex.com", "a.ex.com 60 1 1.1.1.1", "b.ex.com 60 5 a.ex.com")
	good := recordsFrom(t, "x 60 2 a.ex.com", "x 60 15 1 a.ex.com")
	bad := recordsFrom(t, "b.ex.com 60 5 a.ex.com", "a.ex.com 60 1 1.1.1.1", "ex.com 60 6 7", "a.ex.com 60 16 x", "x 60 5 a.ex.com")
	bad = append(bad, impl.Record{}, hostOf("X", 2, "a.ex.com"), hostOf("x..y", 2, "a.ex.com"), hostOf("x", 2, ""), hostOf("x", 2, "*.ex.com"), hostOf("x", 2, "A.ex.com"), hostOf("x", 2, "5 a.ex.com"),
		hostOf("x", 15, "a.ex.com"), hostOf("x", 15, "65536 a.ex.com"), hostOf("x", 15, "-1 a.ex.com"), hostOf("x", 15, "01 a.ex.com"), hostOf("x", 15, "1 "), hostOf("x", 15, "1  a.ex.com"),
		hostOf("x", 3, "a.ex.com"), hostOf("x", 0, "a.ex.com"), hostOf("x", math.MinInt, "a.ex.com"), hostOf("x", math.MaxInt, "a.ex.com"), hostOf("x", allSerials+2, "a.ex.com"),
		withTtl(good[0], -1), withTtl(good[0], 100001), withTtl(good[1], math.MaxInt), withTtl(good[1], math.MinInt), hostOf("x", 2, strings.Repeat("a.", 1<<16)+"a"))
	for _, r := range bad {
		wantNoGlue(t, z, []impl.Record{r})
		for at := range len(good) + 1 {
			wantNoGlue(t, z, slices.Insert(slices.Clone(good), at, r))
		}
	}
	wantGlueIs(t, z, []impl.Record{withTtl(good[0], 0), withTtl(good[1], 100000), hostOf("", 2, "a.ex.com"), hostOf("*", 15, "65535 a.ex.com")}, "a.ex.com 60 1 1.1.1.1")
}

// withRecordsOf puts the records of one name in as those of another one, too.
func withRecordsOf(z impl.Zone, from, to string) impl.Zone {
	z.Records = slices.Clone(z.Records)
	for _, r := range slices.Clone(z.Records) {
		if r.Name == from {
			r.Name = to
			z.Records = append(z.Records, r)
		}
	}
	z.Records = inOrder(z.Records...)
	return z
}

func withoutName(z impl.Zone, name string) impl.Zone {
	z.Records = slices.DeleteFunc(slices.Clone(z.Records), func(r impl.Record) bool { return r.Name == name })
	return z
}

// Promise 7, from outside: what a star tells of a name is what the name tells once it has the star's records; without both there is none.
func TestANameHasItsRecordsOrThoseOfTheStarOrNone(t *testing.T) {
	r := rand.New(rand.NewSource(71))
	kinds := map[int]int{}
	byStar := 0
	for range 3000 {
		z := randomLookZone(r)
		name, kind := randomLookName(r, z.Apex), []int{1, 2, 5, 15, 16}[r.Intn(5)]
		found, ok := impl.LookUp(z, name, kind)
		if !ok {
			t.Fatalf("LookUp(%s, %q, %d) tells false", shown(z), name, kind)
		}
		kinds[found.Kind]++
		own, _ := impl.SetIn(z, name, kind)
		switch {
		case found.Kind == impl.FoundNot || found.Kind == impl.FoundCut:
			continue
		case found.Owner == name && !(found.Kind == impl.FoundData && slices.Equal(found.Records, own)) && len(own) > 0:
			t.Errorf("LookUp(%s, %q, %d) = %s: the name has records", shown(z), name, kind, shown(found))
		case found.Owner != name && found.Kind != impl.FoundNoName:
			byStar++
			wantStarStandsFor(t, z, name, kind, found)
		}
		if there, _ := impl.IsThere(z, name); there != (found.Owner == name) {
			t.Errorf("LookUp(%s, %q, %d) = %s, but the name is there: %v", shown(z), name, kind, shown(found), there)
		}
	}
	if len(kinds) != 6 || slices.Min([]int{kinds[1], kinds[2], kinds[3], kinds[4], kinds[5], kinds[6]}) < 50 || byStar < 100 {
		t.Error("the lookups are all of one kind", kinds, byStar)
	}
}

func wantStarStandsFor(t *testing.T, z impl.Zone, name string, kind int, found impl.Found) {
	t.Helper()
	encloser, _ := impl.EncloserOf(z, name)
	if found.Owner != strings.TrimSuffix("*."+encloser, ".") {
		t.Errorf("%q is told by %q, but %q is next above it", name, found.Owner, encloser)
	}
	own := withRecordsOf(z, found.Owner, name)
	// A star that is a cut, or that is there for others alone, can't be put in so.
	if len(own.Records) > len(z.Records) && wantGoodZone(own) && len(wantHeld(z, found.Owner, 2, name)) == 0 {
		told, ok := impl.LookUp(own, name, kind)
		if want := (impl.Found{Kind: found.Kind, Owner: name, Records: found.Records}); !alikeFounds(told, want) || !ok {
			t.Errorf("LookUp(%s, %q, %d) = %s; want %s", shown(own), name, kind, shown(told), shown(want))
		}
	}
	bare := withoutName(z, found.Owner)
	if there, _ := impl.IsThere(bare, found.Owner); there {
		return
	}
	above, _ := impl.IsThere(bare, encloser)
	told, ok := impl.LookUp(bare, name, kind)
	if above && (!alikeFounds(told, impl.Found{Kind: impl.FoundNoName, Owner: encloser}) || !ok) {
		t.Errorf("without the star LookUp(%s, %q, %d) = %s, %v", shown(bare), name, kind, shown(told), ok)
	}
}
