package tests

import (
	"fmt"
	"math"
	"math/rand"
	"slices"
	"strings"
	"testing"

	"loop.example/g00300/impl"
)

func gapOf(owner, next string, types ...int) impl.Gap {
	return impl.Gap{Owner: owner, Next: next, Types: types}
}

// ringOf are good gaps for the first of these names, which rise.
func ringOf(names ...string) []impl.Gap {
	var l []impl.Gap
	for i, name := range names {
		l = append(l, gapOf(name, names[(i+1)%len(names)], 1))
	}
	return l
}

// longRing has the apex and so many names right below it, less one.
func longRing(many int) []impl.Gap {
	names := []string{"ex.com"}
	for i := range many - 1 {
		names = append(names, fmt.Sprintf("n%02d.ex.com", i))
	}
	return ringOf(names...)
}

func wantGapsAre(t *testing.T, z impl.Zone, l ...impl.Gap) {
	t.Helper()
	got, ok := impl.GapsOf(z)
	if !alikeGaps(got, l) || !ok {
		t.Errorf("GapsOf(%s) = %s, %v; want %s", shown(z), shown(got), ok, shown(l))
	}
	if !impl.GoodGaps(z.Apex, got) {
		t.Errorf("GapsOf(%s) = %s, which are not good", shown(z), shown(got))
	}
}

func wantGaps(t *testing.T, z impl.Zone) []impl.Gap {
	t.Helper()
	l, ok := impl.GapsOf(z)
	if !ok {
		t.Fatalf("GapsOf(%s) tells false", shown(z))
	}
	return l
}

func wantBadGaps(t *testing.T, apex string, l []impl.Gap) {
	t.Helper()
	if impl.GoodGaps(apex, l) {
		t.Errorf("GoodGaps(%.80q, %s) = true", apex, shown(l))
	}
}

func wantRingIs(t *testing.T, apex string, l []impl.Gap) {
	t.Helper()
	if !impl.GoodGaps(apex, l) {
		t.Errorf("GoodGaps(%q, %s) = false", apex, shown(l))
	}
}

func wantCovered(t *testing.T, g impl.Gap, covered bool, names ...string) {
	t.Helper()
	for _, name := range names {
		if got, ok := impl.Covers(g, name); got != covered || !ok {
			t.Errorf("Covers(%s, %q) = %v, %v; want %v", shown(g), name, got, ok, covered)
		}
	}
}

func wantNotAsked(t *testing.T, g impl.Gap, names ...string) {
	t.Helper()
	for _, name := range names {
		if got, ok := impl.Covers(g, name); got || ok {
			t.Errorf("Covers(%s, %.80q) = %v, %v; want the zero answer", shown(g), name, got, ok)
		}
		wantNotClosest(t, g, name)
	}
}

func wantGapIs(t *testing.T, l []impl.Gap, want impl.Gap, names ...string) {
	t.Helper()
	for _, name := range names {
		if got, ok := impl.GapFor(l, name); !alikeGap(got, want) || !ok {
			t.Errorf("GapFor(%s, %q) = %s, %v; want %s", shown(l), name, shown(got), ok, shown(want))
		}
	}
}

func wantNoGap(t *testing.T, l []impl.Gap, names ...string) {
	t.Helper()
	for _, name := range names {
		if got, ok := impl.GapFor(l, name); !alikeGap(got, impl.Gap{}) || ok {
			t.Errorf("GapFor(%s, %.80q) = %s, %v; want the zero answer", shown(l), name, shown(got), ok)
		}
	}
}

func wantClosestIs(t *testing.T, g impl.Gap, closest string, names ...string) {
	t.Helper()
	for _, name := range names {
		if got, ok := impl.ClosestBy(g, name); got != closest || !ok {
			t.Errorf("ClosestBy(%s, %q) = %q, %v; want %q", shown(g), name, got, ok, closest)
		}
	}
}

func wantNotClosest(t *testing.T, g impl.Gap, names ...string) {
	t.Helper()
	for _, name := range names {
		if got, ok := impl.ClosestBy(g, name); got != "" || ok {
			t.Errorf("ClosestBy(%s, %.80q) = %q, %v; want the zero answer", shown(g), name, got, ok)
		}
	}
}

// wantProvedBy asks for a proof by the Owners of its gaps; it holds in either order.
func wantProvedBy(t *testing.T, z impl.Zone, name string, owners ...string) {
	t.Helper()
	l, ok := impl.ProveAbsent(z, name)
	var told []string
	for _, g := range l {
		told = append(told, g.Owner)
		if !slices.ContainsFunc(wantRing(z), func(of impl.Gap) bool { return alikeGap(of, g) }) {
			t.Errorf("ProveAbsent(%q) tells %s, which is no gap of the zone", name, shown(g))
		}
	}
	if !slices.Equal(told, owners) || !ok {
		t.Errorf("ProveAbsent(%q) = %s, %v; want %q", name, shown(l), ok, owners)
	}
	wantAbsent(t, z.Apex, true, name, l...)
	slices.Reverse(l)
	wantAbsent(t, z.Apex, true, name, l...)
}

func wantNotProved(t *testing.T, z impl.Zone, names ...string) {
	t.Helper()
	for _, name := range names {
		if got, ok := impl.ProveAbsent(z, name); len(got) != 0 || ok {
			t.Errorf("ProveAbsent(%s, %.80q) = %s, %v; want the zero answer", shown(z), name, shown(got), ok)
		}
	}
}

func wantAbsent(t *testing.T, apex string, absent bool, name string, l ...impl.Gap) {
	t.Helper()
	if got, ok := impl.CheckAbsent(apex, l, name); got != absent || !ok {
		t.Errorf("CheckAbsent(%q, %s, %q) = %v, %v; want %v", apex, shown(l), name, got, ok, absent)
	}
}

func wantNotChecked(t *testing.T, apex string, name string, l ...impl.Gap) {
	t.Helper()
	if got, ok := impl.CheckAbsent(apex, l, name); got || ok {
		t.Errorf("CheckAbsent(%.80q, %s, %.80q) = %v, %v; want the zero answer", apex, shown(l), name, got, ok)
	}
}

// wantNeverAbsent asks for all proofs that the gaps of a zone could be: none, each alone, and each two.
func wantNeverAbsent(t *testing.T, z impl.Zone, names ...string) {
	t.Helper()
	for _, name := range names {
		if provable(t, z, name) {
			t.Errorf("some gaps of %s tell %q absent", shown(z), name)
		}
	}
}

func provable(t *testing.T, z impl.Zone, name string) bool {
	t.Helper()
	proofs := [][]impl.Gap{nil}
	for _, a := range wantRing(z) {
		for _, b := range wantRing(z) {
			proofs = append(proofs, []impl.Gap{a}, []impl.Gap{a, b})
		}
	}
	for _, l := range proofs {
		absent, ok := impl.CheckAbsent(z.Apex, l, name)
		if !ok {
			t.Errorf("CheckAbsent(%q, %s, %q) tells false", z.Apex, shown(l), name)
		}
		if absent {
			return true
		}
	}
	return false
}

func TestGapsOfZones(t *testing.T) {
	z := zoneWith(t, "ex.com", "b.ex.com 60 1 1.1.1.1", "x.d.ex.com 60 1 1.1.1.1", "a.b.ex.com 60 16 x", "*.ex.com 60 5 b.ex.com", "s.ex.com 60 2 ns.s.ex.com", "ns.s.ex.com 60 1 1.1.1.1")
	// By the order of names, not of texts; what is there for others alone has no gap, what lies below a cut has one.
	wantGapsAre(t, z, gapOf("ex.com", "*.ex.com", 6), gapOf("*.ex.com", "b.ex.com", 5), gapOf("b.ex.com", "a.b.ex.com", 1), gapOf("a.b.ex.com", "x.d.ex.com", 16),
		gapOf("x.d.ex.com", "s.ex.com", 1), gapOf("s.ex.com", "ns.s.ex.com", 2), gapOf("ns.s.ex.com", "ex.com", 1))
	// A zone with one name alone leads to itself.
	wantGapsAre(t, zoneOf("ex.com", 0), gapOf("ex.com", "ex.com", 6))
	wantGapsAre(t, zoneOf("", mostCounter), gapOf("", "", 6))
	wantGapsAre(t, zoneOf("ex.com", 7, addressOf("ex.com", 1), addressOf("ex.com", 2)), gapOf("ex.com", "ex.com", 1, 6))
	wantGapsAre(t, zoneOf("ex.com", 7, addressOf("a.ex.com", 1)), gapOf("ex.com", "a.ex.com", 6), gapOf("a.ex.com", "ex.com", 1))
	root := zoneWith(t, "", "com 60 2 ns.com", "ns.com 60 1 1.1.1.1", "* 60 1 1.1.1.1", "a.b 60 16 x")
	wantGapsAre(t, root, gapOf("", "*", 6), gapOf("*", "a.b", 1), gapOf("a.b", "com", 16), gapOf("com", "ns.com", 2), gapOf("ns.com", "", 1))
	wantGapsAre(t, zoneOf("h", 1, addressOf(labels8, 1)), gapOf("h", labels8, 6), gapOf(labels8, "h", 1))
}

func TestTypesOfGaps(t *testing.T) {
	z := zoneWith(t, "ex.com", "ex.com 60 1 1.1.1.1", "ex.com 60 1 1.1.1.2", "ex.com 60 2 ns.other", "ex.com 60 2 ns.ex.com", "ex.com 60 15 5 mx.other", "ex.com 60 15 6 mx.other", "ex.com 60 16 x", "ex.com 60 16 y", "ex.com 60 16 z",
		"a.ex.com 60 1 1.1.1.1", "a.ex.com 60 1 1.1.1.2", "a.ex.com 60 1 1.1.1.3", "a.ex.com 60 15 5 mx.other", "a.ex.com 60 16 x", "a.ex.com 60 16 ",
		"b.ex.com 60 5 a.ex.com", "c.ex.com 60 2 ns.other", "c.ex.com 60 2 ns.ex.com", "c.ex.com 60 1 1.1.1.1", "c.ex.com 60 1 1.1.1.2", "d.ex.com 60 16 x", "d.ex.com 60 16 y")
	wantGapsAre(t, z, gapOf("ex.com", "a.ex.com", 1, 2, 6, 15, 16), gapOf("a.ex.com", "b.ex.com", 1, 15, 16), gapOf("b.ex.com", "c.ex.com", 5), gapOf("c.ex.com", "d.ex.com", 1, 2), gapOf("d.ex.com", "ex.com", 16))
}

func TestGapsOfFullZones(t *testing.T) {
	for _, many := range []int{1, 2, 39, 40} {
		want := longRing(many)
		want[0].Types = []int{6}
		wantGapsAre(t, fullZone(many, 3), want...)
	}
	// Forty records of one name are one gap.
	var l []impl.Record
	for i := range 39 {
		l = append(l, addressOf("a.ex.com", i))
	}
	wantGapsAre(t, zoneOf("ex.com", 3, l...), gapOf("ex.com", "a.ex.com", 6), gapOf("a.ex.com", "ex.com", 1))
}

func TestZonesThatAreNotGoodHaveNoGaps(t *testing.T) {
	good := zoneWith(t, "ex.com", "a.ex.com 60 1 1.1.1.1", "b.ex.com 60 5 a.ex.com", "c.ex.com 60 2 ns.c.ex.com")
	zones := []impl.Zone{{}, {Apex: "ex.com"}, {Apex: "ex.com", Counter: 7}, {Records: good.Records, Counter: 7}, {Apex: "ex.com", Records: good.Records}, fullZone(41, 1), fullZone(500, 1)}
	for _, l := range [][]impl.Record{
		good.Records[1:], append(slices.Clone(good.Records), good.Records[1]), append(slices.Clone(good.Records), addressOf("ex.net", 1)),
		inOrder(append(slices.Clone(good.Records), addressOf("b.ex.com", 1))...), inOrder(append(slices.Clone(good.Records), noteOf("x.c.ex.com", "x"))...),
		inOrder(append(slices.Clone(good.Records), soaOf("a.ex.com", 7))...), {{}, {}}, make([]impl.Record, 1000),
	} {
		zones = append(zones, impl.Zone{Apex: "ex.com", Counter: 7, Records: l})
	}
	for _, apex := range []string{"*.ex.com", "*", ".", "Ex.com", "com", "a.ex.com", "ex..com", strings.Repeat("a.", 1<<16)} {
		zones = append(zones, impl.Zone{Apex: apex, Counter: 7, Records: good.Records})
	}
	for _, counter := range []int{-1, 0, 6, 8, mostCounter + 1, math.MinInt, math.MaxInt} {
		zones = append(zones, impl.Zone{Apex: "ex.com", Counter: counter, Records: good.Records})
	}
	for _, z := range zones {
		if got, ok := impl.GapsOf(z); len(got) != 0 || ok {
			t.Errorf("GapsOf(%s) = %s, %v; want the zero answer", shown(z), shown(got), ok)
		}
		wantNotProved(t, z, "none.ex.com", "x.a.ex.com", "x.c.ex.com", "ex.com", "a.ex.com", "com", "", "none", ".", "none."+z.Apex)
	}
}

func TestGoodGaps(t *testing.T) {
	wantRingIs(t, "ex.com", ringOf("ex.com"))
	wantRingIs(t, "", ringOf(""))
	wantRingIs(t, "ex.com", ringOf("ex.com", "*.ex.com", "a.ex.com", "b.a.ex.com", "b.ex.com"))
	wantRingIs(t, "", ringOf("", "*", "a", "b.a", "b", "a.c"))
	wantRingIs(t, "h", ringOf("h", labels8))
	wantRingIs(t, "ab", ringOf("ab", name60))
	for _, types := range [][]int{{1}, {2}, {5}, {6}, {15}, {16}, {1, 2}, {5, 6}, {1, 16}, {1, 2, 5, 6, 15, 16}} {
		wantRingIs(t, "ex.com", []impl.Gap{gapOf("ex.com", "a.ex.com", types...), gapOf("a.ex.com", "ex.com", types...)})
	}
	// No word of the chapter bars a star from the apex of gaps.
	wantRingIs(t, "*.com", ringOf("*.com", "a.*.com"))
}

func TestHowManyGapsAreGood(t *testing.T) {
	for _, l := range [][]impl.Gap{nil, {}} {
		wantBadGaps(t, "ex.com", l)
		wantBadGaps(t, "", l)
		wantNoGap(t, l, "ex.com", "", "a.ex.com")
	}
	for _, many := range []int{1, 2, 39, 40} {
		wantRingIs(t, "ex.com", longRing(many))
	}
	for _, many := range []int{41, 42, 80, 99} {
		wantBadGaps(t, "ex.com", longRing(many))
		wantNoGap(t, longRing(many), "ex.com", "n00.ex.com", "a.ex.com", "z.ex.com")
	}
	wantBadGaps(t, "", make([]impl.Gap, 1))
	wantBadGaps(t, "", make([]impl.Gap, 40))
	wantBadGaps(t, "", make([]impl.Gap, 1<<16))
}

func TestOwnersThatAreNotGood(t *testing.T) {
	names := []string{"ex.com", "a.ex.com", "b.ex.com", "c.ex.com"}
	wantRingIs(t, "ex.com", ringOf(names...))
	// The first Owner is not the apex.
	for _, apex := range []string{"com", "", "a.ex.com", "ex.net", "x.com", "*.ex.com", ".", "Ex.com", "ex.com.", strings.Repeat("a.", 1<<16)} {
		wantBadGaps(t, apex, ringOf(names...))
	}
	wantBadGaps(t, "ex.com", ringOf(names[1:]...))
	wantBadGaps(t, "ex.com", ringOf("com", "ex.com", "a.ex.com"))
	// An Owner is not below the apex.
	for _, other := range []string{"ex.net", "zz.com", "fx.com", "net", "a.net"} {
		wantBadGaps(t, "ex.com", ringOf(append(slices.Clone(names), other)...))
	}
	wantBadGaps(t, "ex.com", ringOf("ex.com", "ex.net"))
	// Owners do not rise, or are alike.
	for _, l := range [][]string{
		{"ex.com", "b.ex.com", "a.ex.com"}, {"ex.com", "a.ex.com", "c.ex.com", "b.ex.com"}, {"ex.com", "ex.com"}, {"ex.com", "a.ex.com", "a.ex.com"}, {"ex.com", "a.ex.com", "ex.com"}, {"ex.com", "a.ex.com", "a.ex.com", "b.ex.com"},
		{"ex.com", "a.b.ex.com", "b.ex.com"}, {"ex.com", "a.ex.com", "*.ex.com"}, {"ex.com", "a.b.ex.com", "a.a.ex.com"}, {"ex.com", "z.a.ex.com", "a.ex.com", "b.ex.com"},
	} {
		wantBadGaps(t, "ex.com", ringOf(l...))
		wantNoGap(t, ringOf(l...), "ex.com", "a.ex.com", "none.ex.com")
	}
	wantBadGaps(t, "", ringOf("", ""))
	// An Owner is no name, be it the first one or another.
	for _, bad := range badNames() {
		wantBadGaps(t, bad, ringOf(bad))
		wantBadGaps(t, bad, ringOf(bad, "a."+bad))
		wantBadGaps(t, "ex.com", ringOf("ex.com", bad+".ex.com", "zz.ex.com"))
		wantBadGaps(t, "ex.com", ringOf("ex.com", bad))
		wantBadGaps(t, "", ringOf("", bad))
		wantNoGap(t, ringOf(bad), bad, "", "a")
		wantNoGap(t, ringOf("", bad), bad, "", "a")
	}
}

func TestNextsThatAreNotGood(t *testing.T) {
	good := ringOf("ex.com", "a.ex.com", "b.ex.com", "c.ex.com")
	for at := range good {
		for _, next := range append(badNames(), "ex.com", "a.ex.com", "b.ex.com", "c.ex.com", "aa.ex.com", "d.ex.com", "com", "", "ex.net") {
			l := cloneGaps(good)
			if l[at].Next == next {
				continue
			}
			l[at].Next = next
			wantBadGaps(t, "ex.com", l)
			wantNoGap(t, l, "ex.com", "a.ex.com", "none.ex.com")
		}
	}
	wantBadGaps(t, "ex.com", []impl.Gap{gapOf("ex.com", "a.ex.com", 1)})
	wantBadGaps(t, "ex.com", []impl.Gap{gapOf("ex.com", "", 1)})
	wantBadGaps(t, "", []impl.Gap{gapOf("", "ex.com", 1)})
	// Cut off at either end a ring is none.
	wantBadGaps(t, "ex.com", good[:3])
	wantBadGaps(t, "a.ex.com", good[1:])
}

func TestTypesThatAreNotGood(t *testing.T) {
	lists := [][]int{nil, {}, {2, 1}, {16, 1}, {1, 1}, {16, 16}, {1, 2, 2}, {1, 5, 2}, {1, 2, 5, 6, 15, 16, 16}, {1, 1, 2, 5, 6, 15, 16}, {6, 5}, {1, 2, 5, 6, 16, 15}}
	for _, kind := range []int{0, -1, 3, 4, 7, 14, 17, 255, 256, 257, 261, allSerials + 1, -allSerials + 1, math.MinInt, math.MinInt + 1, math.MaxInt - 1, math.MaxInt} {
		lists = append(lists, []int{kind}, []int{1, kind}, []int{kind, 16}, []int{1, kind, 16})
	}
	lists = append(lists, make([]int, 1000), slices.Repeat([]int{1}, 1000))
	for _, types := range lists {
		for at := range 3 {
			l := ringOf("ex.com", "a.ex.com", "b.ex.com")
			l[at].Types = types
			wantBadGaps(t, "ex.com", l)
			wantNoGap(t, l, "ex.com", "a.ex.com", "none.ex.com")
		}
		wantBadGaps(t, "ex.com", []impl.Gap{gapOf("ex.com", "ex.com", types...)})
		// Types are asked for in rings alone.
		g := gapOf("ex.com", "b.ex.com", types...)
		wantCovered(t, g, true, "a.ex.com")
		wantClosestIs(t, g, "ex.com", "a.ex.com")
		wantAbsent(t, "ex.com", true, "a.ex.com", g)
	}
}

func TestCovers(t *testing.T) {
	g := gapOf("b.ex.com", "d.ex.com", 1)
	wantCovered(t, g, false, "b.ex.com", "d.ex.com")
	wantCovered(t, g, true, "c.ex.com", "x.b.ex.com", "*.b.ex.com", "z.z.b.ex.com", "bb.ex.com", "b-.ex.com", "czzzz.ex.com", "z.c.ex.com")
	// Ahead of both, behind both, and below Next.
	wantCovered(t, g, false, "", "com", "ex.com", "a.ex.com", "*.ex.com", "z.a.ex.com", "b.com", "c.com", "c")
	wantCovered(t, g, false, "e.ex.com", "x.d.ex.com", "*.d.ex.com", "z.ex.com", "ex.net", "c.ex.net", "c.fx.com", "zz")
	below := gapOf("ex.com", "x.d.ex.com", 6)
	wantCovered(t, below, true, "a.ex.com", "*.ex.com", "d.ex.com", "a.d.ex.com", "*.d.ex.com", "z.c.ex.com")
	wantCovered(t, below, false, "ex.com", "x.d.ex.com", "y.d.ex.com", "a.x.d.ex.com", "e.ex.com", "com", "a.com", "")
	root := gapOf("", "com", 6)
	wantCovered(t, root, true, "*", "a", "-", "z.a", "coa", "co", "z.bom")
	wantCovered(t, root, false, "", "com", "a.com", "comm", "net")
}

func TestCoversByTheLastGap(t *testing.T) {
	for _, next := range []string{"ex.com", "com", "", "a.ex.com", "x.com", "net.ex.com"} {
		g := gapOf("p.ex.com", next, 1)
		wantCovered(t, g, true, "q.ex.com", "a.p.ex.com", "*.p.ex.com", "pp.ex.com", "z.ex.com")
		// What is behind is not asked whether it is below Next, nor is Next itself.
		if wantOrder(next, "p.ex.com") < 0 {
			wantCovered(t, g, true, "x.com", "net", "a.net")
		}
		wantCovered(t, g, false, "p.ex.com", "o.ex.com", "z.a.ex.com", "*.ex.com", "com", "", "a", "ex.com", "a.ex.com", "net.ex.com")
	}
	// A gap that leads to itself.
	itself := gapOf("ex.com", "ex.com", 6)
	wantCovered(t, itself, true, "a.ex.com", "*.ex.com", "z.z.z.ex.com", "ex.net", "fx.com", "net")
	wantCovered(t, itself, false, "ex.com", "com", "", "a.com", "a", "b.bx.com")
	root := gapOf("", "", 6)
	wantCovered(t, root, true, "a", "*", "com", "a.com", name60, labels8, stars8)
	wantCovered(t, root, false, "")
}

func TestCoversOfWhatIsNoName(t *testing.T) {
	for _, bad := range badNames() {
		wantNotAsked(t, gapOf("a", "c", 1), bad)
		wantNotAsked(t, gapOf("", "", 1), bad)
		for _, name := range []string{"", "a", "b", "*", "z.z", bad} {
			wantNotAsked(t, gapOf(bad, "c", 1), name)
			wantNotAsked(t, gapOf("a", bad, 1), name)
			wantNotAsked(t, gapOf(bad, bad, 1), name)
			wantNotAsked(t, gapOf("z", bad, 1), name)
		}
	}
}

func TestGapFor(t *testing.T) {
	l := ringOf("ex.com", "b.ex.com", "x.d.ex.com", "f.ex.com")
	for i := range l {
		l[i].Types = sixTypes[i : i+3]
	}
	wantGapIs(t, l, l[0], "ex.com", "*.ex.com", "a.ex.com", "z.z.a.ex.com", "-.ex.com")
	wantGapIs(t, l, l[1], "b.ex.com", "a.b.ex.com", "*.b.ex.com", "c.ex.com", "d.ex.com", "a.d.ex.com", "w.d.ex.com")
	wantGapIs(t, l, l[2], "x.d.ex.com", "a.x.d.ex.com", "y.d.ex.com", "e.ex.com", "z.e.ex.com")
	wantGapIs(t, l, l[3], "f.ex.com", "a.f.ex.com", "g.ex.com", "z.ex.com", "z.z.z.ex.com")
	wantNoGap(t, l, "com", "", "ex.net", "a.com", "x.com", "fx.com", "zz", "aex.com", "ex", "b.ex.net")
	wantNoGap(t, l, badNames()...)
	wantNoGap(t, l, "C.ex.com", "c..ex.com", ".ex.com", "c.ex.com.", "c*.ex.com", labels8+".ex.com", "z b.ex.com")
	wantGapIs(t, ringOf("ex.com"), gapOf("ex.com", "ex.com", 1), "ex.com", "a.ex.com", "*.ex.com", "z.z.ex.com")
	wantNoGap(t, ringOf("ex.com"), "com", "", "ex.net", "net")
	root := ringOf("", "b", "a.c")
	wantGapIs(t, root, root[0], "", "*", "a", "z.a")
	wantGapIs(t, root, root[1], "b", "z.b", "c", "*.c")
	wantGapIs(t, root, root[2], "a.c", "b.a.c", "b.c", "d", "z.z.z")
	long := longRing(40)
	for i, g := range long {
		wantGapIs(t, long, g, g.Owner, "a."+g.Owner)
		if i > 0 {
			wantGapIs(t, long, g, strings.Replace(g.Owner, ".", "a.", 1))
		}
	}
	// The list's first Owner is what the names are to be below: a ring that begins elsewhere is not good.
	wantNoGap(t, append(slices.Clone(l[1:]), l[0]), "a.ex.com", "b.ex.com", "a.b.ex.com")
	wantNoGap(t, l[1:], "b.ex.com", "a.b.ex.com")
	wantNoGap(t, l[:3], "ex.com", "a.ex.com", "b.ex.com")
}

func TestClosestBy(t *testing.T) {
	// Owner shares more labels.
	wantClosestIs(t, gapOf("a.b.ex.com", "c.ex.com"), "b.ex.com", "b.b.ex.com", "z.z.b.ex.com")
	wantClosestIs(t, gapOf("a.b.ex.com", "c.ex.com"), "a.b.ex.com", "x.a.b.ex.com", "y.x.a.b.ex.com")
	wantClosestIs(t, gapOf("a.ex.com", "fx.com"), "ex.com", "b.ex.com", "z.z.ex.com")
	// Next does.
	wantClosestIs(t, gapOf("b.ex.com", "x.d.ex.com"), "d.ex.com", "a.d.ex.com", "*.d.ex.com", "c.b.a.d.ex.com")
	wantClosestIs(t, gapOf("b.ex.com", "z.y.x.d.ex.com"), "y.x.d.ex.com", "a.y.x.d.ex.com", "*.y.x.d.ex.com")
	wantClosestIs(t, gapOf("com", "z.ex.net"), "ex.net", "a.ex.net")
	// Both share as many.
	wantClosestIs(t, gapOf("b.ex.com", "d.ex.com"), "ex.com", "c.ex.com", "z.z.c.ex.com")
	wantClosestIs(t, gapOf("b.ex.com", "x.d.ex.com"), "ex.com", "c.ex.com")
	wantClosestIs(t, gapOf("a", "c"), "", "b", "a.b", "*.b")
	wantClosestIs(t, gapOf("a.x.com", "c.x.com"), "x.com", "b.x.com")
	// A name that is there for what is below it alone is itself what is closest.
	wantClosestIs(t, gapOf("b.ex.com", "x.d.ex.com"), "d.ex.com", "d.ex.com")
	wantClosestIs(t, gapOf("b.ex.com", "z.y.x.d.ex.com"), "x.d.ex.com", "x.d.ex.com")
	// More labels, not more bytes of the labels beside them.
	wantClosestIs(t, gapOf("aaaaaaaaaaaa.ex.com", "b.a.b.ex.com"), "a.b.ex.com", "a.a.b.ex.com")
	// The last gap, and one that leads to itself.
	wantClosestIs(t, gapOf("x.d.ex.com", "ex.com"), "d.ex.com", "y.d.ex.com", "a.y.d.ex.com")
	wantClosestIs(t, gapOf("x.d.ex.com", "ex.com"), "ex.com", "e.ex.com")
	wantClosestIs(t, gapOf("x.d.ex.com", "ex.com"), "com", "fx.com")
	wantClosestIs(t, gapOf("x.d.ex.com", "ex.com"), "", "net")
	wantClosestIs(t, gapOf("ex.com", "ex.com"), "ex.com", "a.ex.com", "b.a.ex.com")
	wantClosestIs(t, gapOf("", ""), "", "a", "*", "b.a", name60)
	wantClosestIs(t, gapOf(labels8[2:], "h"), labels8[2:], labels8)
}

func TestClosestByAGapThatDoesNotCover(t *testing.T) {
	g := gapOf("b.ex.com", "d.ex.com", 1)
	wantNotClosest(t, g, "b.ex.com", "d.ex.com", "a.ex.com", "ex.com", "e.ex.com", "x.d.ex.com", "com", "", "net")
	wantNotClosest(t, gapOf("ex.com", "ex.com"), "ex.com", "com", "", "a.com")
	wantNotClosest(t, gapOf("p.ex.com", "ex.com"), "p.ex.com", "ex.com", "a.ex.com", "com")
	wantNotClosest(t, gapOf("", ""), "")
	wantNotClosest(t, impl.Gap{}, "")
}

func TestProofs(t *testing.T) {
	z := zoneWith(t, "ex.com", "b.ex.com 60 1 1.1.1.1", "x.d.ex.com 60 1 1.1.1.1", "f.ex.com 60 16 x", "z.f.ex.com 60 16 x")
	// Its own gap is that of the star, too.
	wantProvedBy(t, z, "a.ex.com", "ex.com")
	wantProvedBy(t, z, "*.ex.com", "ex.com")
	wantProvedBy(t, z, "-.ex.com", "ex.com")
	wantProvedBy(t, z, "a.b.ex.com", "b.ex.com")
	wantProvedBy(t, z, "*.d.ex.com", "b.ex.com")
	wantProvedBy(t, z, "a.d.ex.com", "b.ex.com")
	wantProvedBy(t, z, "a.f.ex.com", "f.ex.com")
	wantProvedBy(t, z, "a.z.f.ex.com", "z.f.ex.com")
	wantProvedBy(t, z, "a.x.d.ex.com", "x.d.ex.com")
	// It is another one: that of the name comes first.
	wantProvedBy(t, z, "c.ex.com", "b.ex.com", "ex.com")
	wantProvedBy(t, z, "bb.ex.com", "b.ex.com", "ex.com")
	wantProvedBy(t, z, "y.d.ex.com", "x.d.ex.com", "b.ex.com")
	wantProvedBy(t, z, "e.ex.com", "x.d.ex.com", "ex.com")
	wantProvedBy(t, z, "g.ex.com", "z.f.ex.com", "ex.com")
	wantProvedBy(t, z, "zz.f.ex.com", "z.f.ex.com", "f.ex.com")
	// Several labels below what is there.
	wantProvedBy(t, z, "p.q.r.ex.com", "z.f.ex.com", "ex.com")
	wantProvedBy(t, z, "z.y.x.w.v.a.ex.com", "ex.com")
	wantProvedBy(t, z, "p.q.c.ex.com", "b.ex.com", "ex.com")
	wantProvedBy(t, z, "p.q.r.b.ex.com", "b.ex.com")
	wantProvedBy(t, z, "p.q.y.d.ex.com", "x.d.ex.com", "b.ex.com")
	wantProvedBy(t, z, "*.*.c.ex.com", "b.ex.com", "ex.com")
	// What is there, or there for others alone, the apex, what is outside, and what is no name.
	wantNotProved(t, z, "ex.com", "b.ex.com", "x.d.ex.com", "f.ex.com", "z.f.ex.com", "d.ex.com")
	wantNotProved(t, z, "", "com", "ex.net", "c.com", "net", "*", "*.com", "aex.com", "a", "c.ex.net")
	wantNotProved(t, z, badNames()...)
	wantNotProved(t, z, "C.ex.com", "c..ex.com", ".ex.com", "c.ex.com.", "c*.ex.com", labels8+".ex.com")
}

func TestProofsInSmallAndGreatZones(t *testing.T) {
	for _, name := range []string{"a.ex.com", "*.ex.com", "z.z.z.ex.com"} {
		wantProvedBy(t, zoneOf("ex.com", 0), name, "ex.com")
	}
	wantNotProved(t, zoneOf("ex.com", 0), "ex.com", "com", "", "ex.net")
	full := fullZone(40, 1)
	wantProvedBy(t, full, "n00a.ex.com", "n00.ex.com", "ex.com")
	wantProvedBy(t, full, "n39.ex.com", "n38.ex.com", "ex.com")
	wantProvedBy(t, full, "a.n38.ex.com", "n38.ex.com")
	wantProvedBy(t, full, "a.ex.com", "ex.com")
	wantNotProved(t, full, "n00.ex.com", "n38.ex.com", "ex.com")
	root := zoneWith(t, "", "b 60 1 1.1.1.1", "x.d 60 1 1.1.1.1")
	wantProvedBy(t, root, "a", "")
	wantProvedBy(t, root, "*", "")
	wantProvedBy(t, root, "z.z.a", "")
	wantProvedBy(t, root, "c", "b", "")
	wantProvedBy(t, root, "z.z.z.z", "x.d", "")
	wantProvedBy(t, root, "y.d", "x.d", "b")
	wantProvedBy(t, root, name60, "")
	wantNotProved(t, root, "", "b", "d", "x.d")
	for _, name := range []string{"a", "*", name60, labels8, stars8} {
		wantProvedBy(t, zoneOf("", 5), name, "")
	}
	wantNotProved(t, zoneOf("", 5), "")
	deep := zoneOf("h", 0, addressOf(labels8, 1))
	wantProvedBy(t, deep, "*."+labels8[2:], "h")
	wantProvedBy(t, deep, "b."+labels8[2:], labels8, "h")
	wantNotProved(t, deep, labels8, labels8[2:])
	// As long as a name may be: the star is no longer than the name in whose place it would stand.
	long := label20 + "." + label20 + "." + label20[:16]
	wantProvedBy(t, zoneOf(long, 0), "y."+long, long)
	wantProvedBy(t, zoneOf(long, 0, addressOf("a."+long, 1)), "y."+long, "a."+long, long)
}

func TestNoProofByStarsAndCuts(t *testing.T) {
	z := zoneWith(t, "ex.com", "*.ex.com 60 1 1.1.1.1", "b.ex.com 60 1 1.1.1.1", "*.d.ex.com 60 5 b.ex.com", "x.*.e.ex.com 60 1 1.1.1.1", "s.ex.com 60 2 ns.s.ex.com", "ns.s.ex.com 60 1 1.1.1.1")
	// Told by a star, also by one that is there for others alone.
	wantNotProved(t, z, "a.ex.com", "c.ex.com", "z.z.c.ex.com", "a.d.ex.com", "z.y.d.ex.com", "a.e.ex.com", "*.e.ex.com", "*.d.ex.com", "*.ex.com", "y.e.ex.com", "d.ex.com", "e.ex.com", "x.*.e.ex.com")
	// At a cut and below it, whether there is something or not.
	wantNotProved(t, z, "s.ex.com", "ns.s.ex.com", "a.s.ex.com", "*.s.ex.com", "z.z.s.ex.com", "a.ns.s.ex.com")
	// Where the star next above is not there none further up counts, nor does one below.
	wantProvedBy(t, z, "a.b.ex.com", "b.ex.com")
	wantProvedBy(t, z, "z.z.b.ex.com", "b.ex.com")
	wantProvedBy(t, z, "a.*.ex.com", "*.ex.com")
	wantProvedBy(t, z, "a.*.d.ex.com", "*.d.ex.com")
	wantProvedBy(t, z, "y.*.e.ex.com", "x.*.e.ex.com", "*.d.ex.com")
	wantNeverAbsent(t, z, "a.ex.com", "c.ex.com", "z.z.c.ex.com", "a.d.ex.com", "a.e.ex.com", "*.e.ex.com", "y.e.ex.com", "d.ex.com", "e.ex.com", "b.ex.com", "ex.com", "*.ex.com", "s.ex.com")
	root := zoneWith(t, "", "* 60 16 x", "com 60 2 ns.com", "b 60 1 1.1.1.1")
	wantNotProved(t, root, "", "a", "z.z", "*", "com", "a.com", "b")
	wantProvedBy(t, root, "a.b", "b")
	// TypeNS at the apex is no cut.
	apex := zoneWith(t, "ex.com", "ex.com 60 2 ns.ex.com")
	wantProvedBy(t, apex, "a.ex.com", "ex.com")
}

func TestCheckAbsent(t *testing.T) {
	z := zoneWith(t, "ex.com", "b.ex.com 60 1 1.1.1.1", "x.d.ex.com 60 1 1.1.1.1", "y.*.f.ex.com 60 1 1.1.1.1")
	l := wantGaps(t, z)
	// 0: ex.com, 1: b, 2: x.d, 3: y.*.f.
	wantAbsent(t, "ex.com", true, "c.ex.com", l[1], l[0])
	wantAbsent(t, "ex.com", true, "c.ex.com", l[0], l[1])
	wantAbsent(t, "ex.com", true, "a.ex.com", l[0])
	wantAbsent(t, "ex.com", true, "a.ex.com", l[0], l[2])
	wantAbsent(t, "ex.com", true, "a.ex.com", l[3], l[0])
	wantAbsent(t, "ex.com", true, "a.ex.com", l[0], l[0])
	// None, the name alone covered, the star alone, neither.
	wantAbsent(t, "ex.com", false, "c.ex.com")
	wantAbsent(t, "ex.com", false, "c.ex.com", l[1])
	wantAbsent(t, "ex.com", false, "c.ex.com", l[1], l[1])
	wantAbsent(t, "ex.com", false, "c.ex.com", l[1], l[2])
	wantAbsent(t, "ex.com", false, "c.ex.com", l[0])
	wantAbsent(t, "ex.com", false, "c.ex.com", l[0], l[0])
	wantAbsent(t, "ex.com", false, "c.ex.com", l[0], l[3])
	wantAbsent(t, "ex.com", false, "c.ex.com", l[2], l[3])
	// A name that is there for others alone lies in a gap, and so does a star.
	for _, g := range l {
		wantAbsent(t, "ex.com", false, "d.ex.com", l[1], g)
		wantAbsent(t, "ex.com", false, "d.ex.com", g, l[1])
		wantAbsent(t, "ex.com", false, "f.ex.com", l[2], g)
		wantAbsent(t, "ex.com", false, "*.f.ex.com", l[2], g)
		wantAbsent(t, "ex.com", false, "a.f.ex.com", l[3], g)
		wantAbsent(t, "ex.com", false, "a.f.ex.com", g, l[3])
		wantAbsent(t, "ex.com", false, "a.f.ex.com", l[2], g)
		wantAbsent(t, "ex.com", false, "a.f.ex.com", g, l[2])
		wantAbsent(t, "ex.com", false, "ex.com", l[0], g)
		wantAbsent(t, "ex.com", false, "b.ex.com", l[1], g)
	}
	wantNeverAbsent(t, z, "ex.com", "b.ex.com", "d.ex.com", "x.d.ex.com", "f.ex.com", "*.f.ex.com", "y.*.f.ex.com", "a.f.ex.com", "p.q.f.ex.com")
	// The root is the encloser.
	root := ringOf("", "b", "d")
	wantAbsent(t, "", true, "c", root[1], root[0])
	wantAbsent(t, "", true, "a", root[0])
	wantAbsent(t, "", true, "z.z", root[0], root[2])
	wantAbsent(t, "", false, "c", root[1])
	wantAbsent(t, "", false, "", root[0], root[1])
	star := ringOf("", "*", "b")
	wantAbsent(t, "", false, "a", star[1], star[0])
	wantAbsent(t, "", true, "a", gapOf("", ""))
}

func TestWhatIsNotChecked(t *testing.T) {
	l := ringOf("ex.com", "b.ex.com", "x.d.ex.com")
	wantAbsent(t, "ex.com", true, "c.ex.com", l[:2]...)
	// Three gaps are too many, also where two of them would do.
	wantNotChecked(t, "ex.com", "c.ex.com", l...)
	wantNotChecked(t, "ex.com", "c.ex.com", l[0], l[1], l[1])
	wantNotChecked(t, "ex.com", "a.ex.com", l[0], l[0], l[0])
	wantNotChecked(t, "ex.com", "a.ex.com", make([]impl.Gap, 3)...)
	wantNotChecked(t, "ex.com", "a.ex.com", make([]impl.Gap, 1<<16)...)
	// Not below the apex.
	for _, name := range []string{"com", "", "ex.net", "a.com", "x.com", "zz", "aex.com", "ex"} {
		wantNotChecked(t, "ex.com", name, l[:2]...)
		wantNotChecked(t, "ex.com", name)
		wantNotChecked(t, "ex.com", name, gapOf("", ""))
	}
	for _, apex := range []string{"a.ex.com", "b.ex.com", "*.ex.com", "net", "x.c.ex.com"} {
		wantNotChecked(t, apex, "c.ex.com", l[:2]...)
	}
	for _, bad := range badNames() {
		wantNotChecked(t, bad, "c.ex.com", l[:2]...)
		wantNotChecked(t, bad, bad, l[:2]...)
		wantNotChecked(t, "ex.com", bad, l[:2]...)
		wantNotChecked(t, "", bad, gapOf("", ""))
		wantNotChecked(t, "ex.com", bad+".ex.com", l[:2]...)
		// A gap with what is no name spoils all, also beside one that would do.
		for _, g := range []impl.Gap{gapOf(bad, "ex.com", 1), gapOf("ex.com", bad, 1), gapOf(bad, bad, 1)} {
			wantNotChecked(t, "ex.com", "a.ex.com", g)
			wantNotChecked(t, "ex.com", "a.ex.com", l[0], g)
			wantNotChecked(t, "ex.com", "a.ex.com", g, l[0])
		}
	}
}

// The apex says which names may be asked for; gaps are asked for no more than names.
func TestGapsOfAnotherZone(t *testing.T) {
	other := ringOf("ex.net", "b.ex.net", "x.d.ex.net")
	for _, a := range other {
		for _, b := range other {
			wantAbsent(t, "ex.com", false, "c.ex.com", a, b)
			wantAbsent(t, "ex.com", false, "a.ex.com", a, b)
			wantAbsent(t, "ex.com", false, "*.ex.com", a, b)
		}
	}
	// The last gap of a zone ahead covers the name, but not the star right below what both have in common.
	ahead := ringOf("ex.com", "b.ex.com")
	wantCovered(t, ahead[1], true, "c.ex.net")
	wantAbsent(t, "ex.net", false, "c.ex.net", ahead...)
	wantAbsent(t, "fx.com", false, "c.fx.com", ahead...)
	// One further up covers both.
	wantAbsent(t, "ex.com", true, "a.ex.com", gapOf("com", "com", 6))
	wantAbsent(t, "ex.com", true, "a.ex.com", gapOf("", "", 6))
	wantAbsent(t, "ex.com", true, "ex.com", gapOf("com", "com", 6))
	wantAbsent(t, "ex.com", false, "ex.com", gapOf("com", "a.ex.com", 6))
	// One further down covers what is behind it.
	wantAbsent(t, "ex.com", true, "c.b.ex.com", gapOf("b.ex.com", "b.ex.com", 6))
	wantAbsent(t, "ex.com", false, "c.ex.com", gapOf("b.ex.com", "b.ex.com", 6))
	wantAbsent(t, "ex.com", true, "c.ex.com", gapOf("b.ex.com", "b.ex.com", 6), gapOf("ex.com", "a.ex.com", 6))
}

// Gaps of no one zone may cover a name, or its star, both: of the name the first one counts, of the star any that will do.
func TestGapsThatLieUponEachOther(t *testing.T) {
	near, far := gapOf("ex.com", "x.a.ex.com", 1), gapOf("ex.com", "c.ex.com", 1)
	wantAbsent(t, "ex.com", false, "a.ex.com", near, far)
	wantAbsent(t, "ex.com", true, "a.ex.com", far, near)
	below, over := gapOf("ex.com", "x.*.ex.com", 1), gapOf("ex.com", "c.ex.com", 1)
	wantAbsent(t, "ex.com", true, "a.ex.com", over)
	wantAbsent(t, "ex.com", true, "a.ex.com", below, over)
	wantAbsent(t, "ex.com", true, "a.ex.com", over, below)
	// The closest one is that of the first: by the second one another star would be asked for.
	deep := gapOf("x.a.ex.com", "z.a.ex.com", 1)
	wide := gapOf("*.ex.com", "c.ex.com", 1)
	wantAbsent(t, "ex.com", true, "y.a.ex.com", deep, wide)
	wantAbsent(t, "ex.com", false, "y.a.ex.com", wide, deep)
	wantAbsent(t, "ex.com", false, "y.a.ex.com", deep, gapOf("a.ex.com", "x.*.a.ex.com", 1))
	wantAbsent(t, "ex.com", true, "y.a.ex.com", deep, gapOf("a.ex.com", "x.a.ex.com", 1))
}

// denyNames are names about those of a zone: them, what is above, below and beside them.
func denyNames(z impl.Zone) []string {
	names := append([]string{"", "com", "net", "ex.net"}, wantAllThere(z)...)
	for _, name := range slices.Clone(names) {
		for _, front := range []string{"*.", "-.", "b.", "zz.", "a.zz."} {
			names = append(names, strings.TrimSuffix(front+name, "."))
		}
		if label, rest, _ := strings.Cut(name, "."); label != "*" {
			names = append(names, strings.TrimSuffix(label+"-."+rest, "."))
		}
	}
	slices.Sort(names)
	return slices.DeleteFunc(slices.Compact(names), func(s string) bool { return !wantGood(s) })
}

// wantInOneGap is for names below the apex: each is the Owner of one gap, or lies in one.
func wantInOneGap(t *testing.T, z impl.Zone, l []impl.Gap, name string) {
	t.Helper()
	owners, between := 0, 0
	var of impl.Gap
	for _, g := range l {
		covered, ok := impl.Covers(g, name)
		if !ok {
			t.Errorf("Covers(%s, %q) tells false", shown(g), name)
		}
		if g.Owner == name {
			owners, of = owners+1, g
		}
		if covered {
			between, of = between+1, g
		}
	}
	if owners+between != 1 {
		t.Errorf("%q is an owner of %d gaps and lies in %d of %s", name, owners, between, shown(z))
	}
	wantGapIs(t, l, of, name)
	if has := slices.ContainsFunc(z.Records, func(r impl.Record) bool { return r.Name == name }); has != (owners == 1) {
		t.Errorf("%q is an owner of %d gaps of %s", name, owners, shown(z))
	}
}

// Promise 8, from outside: of all names about those of a zone.
func TestEachNameIsAnOwnerOrLiesInOneGap(t *testing.T) {
	r := rand.New(rand.NewSource(81))
	owners, inGaps := 0, 0
	for range 150 {
		z := randomLookZone(r)
		l := wantGaps(t, z)
		for _, name := range denyNames(z) {
			if !wantBelowName(name, z.Apex) {
				wantNoGap(t, l, name)
				continue
			}
			wantInOneGap(t, z, l, name)
			if slices.ContainsFunc(l, func(g impl.Gap) bool { return g.Owner == name }) {
				owners++
			} else {
				inGaps++
			}
		}
	}
	if owners < 500 || inGaps < 500 {
		t.Error("the names are all of one kind", owners, inGaps)
	}
}

// Promise 8, from outside: where LookUp tells FoundNoName there is a proof that holds; otherwise none is told.
func TestProofsHold(t *testing.T) {
	r := rand.New(rand.NewSource(82))
	sizes := map[int]int{}
	for range 400 {
		z := randomLookZone(r)
		ring := wantGaps(t, z)
		for _, name := range denyNames(z) {
			found, _ := impl.LookUp(z, name, impl.TypeA)
			l, ok := impl.ProveAbsent(z, name)
			sizes[len(l)]++
			if ok != (found.Kind == impl.FoundNoName) || ok != (len(l) > 0) {
				t.Errorf("ProveAbsent(%s, %q) = %s, %v; LookUp tells %s", shown(z), name, shown(l), ok, shown(found))
			}
			if !ok {
				continue
			}
			wantAbsent(t, z.Apex, true, name, l...)
			own, _ := impl.GapFor(ring, name)
			star, _ := impl.GapFor(ring, wantStarOf(found.Owner))
			if !alikeGap(l[0], own) || !alikeGap(l[len(l)-1], star) || len(l) == 2 && alikeGap(own, star) {
				t.Errorf("ProveAbsent(%s, %q) = %s; want %s, %s", shown(z), name, shown(l), shown(own), shown(star))
			}
			wantClosestIs(t, own, found.Owner, name)
		}
	}
	if len(sizes) != 3 || min(sizes[0], sizes[1], sizes[2]) < 500 {
		t.Error("the proofs are all of one kind", sizes)
	}
}

// No gaps of a zone tell a name absent that is there, or that a star stands for; all others are told so by some.
func TestWhatIsThereIsNeverToldAbsent(t *testing.T) {
	r := rand.New(rand.NewSource(83))
	many := map[bool]int{}
	for range 60 {
		z := randomLookZone(r)
		names := denyNames(z)
		for range 12 {
			name := names[r.Intn(len(names))]
			if !wantBelowName(name, z.Apex) {
				continue
			}
			there := wantAllThere(z)
			absent := !slices.Contains(there, name) && !slices.Contains(there, wantStarOf(wantFirstThere(z, name)))
			many[absent]++
			if got := provable(t, z, name); got != absent {
				t.Errorf("in %s a proof of %q is there: %v; want %v", shown(z), name, got, absent)
			}
		}
	}
	if many[true] < 100 || many[false] < 100 {
		t.Error("the names are all of one kind", many)
	}
}
