package tests

import (
	"math"
	"math/rand"
	"slices"
	"strings"
	"testing"

	"loop.example/g00300/impl"
)

func checkGapsIn(t *testing.T, z impl.Zone, name string) {
	t.Helper()
	want, ok := wantGapsOf(z)
	if got, good := impl.GapsOf(z); !alikeGaps(got, want) || good != ok {
		t.Errorf("GapsOf(%s) = %s, %v; want %s, %v", shown(z), shown(got), good, shown(want), ok)
	}
	want, ok = wantProof(z, name)
	if got, good := impl.ProveAbsent(z, name); !alikeGaps(got, want) || good != ok {
		t.Errorf("ProveAbsent(%s, %.80q) = %s, %v; want %s, %v", shown(z), name, shown(got), good, shown(want), ok)
	}
}

func checkGaps(t *testing.T, apex string, l []impl.Gap, name string) {
	t.Helper()
	if impl.GoodGaps(apex, l) != wantGoodGaps(apex, l) {
		t.Errorf("GoodGaps(%.80q, %s) = %v", apex, shown(l), !wantGoodGaps(apex, l))
	}
	want, ok := wantGapFor(l, name)
	if got, good := impl.GapFor(l, name); !alikeGap(got, want) || good != ok {
		t.Errorf("GapFor(%s, %.80q) = %s, %v; want %s, %v", shown(l), name, shown(got), good, shown(want), ok)
	}
	absent, ok := wantCheck(apex, l, name)
	if got, good := impl.CheckAbsent(apex, l, name); got != absent || good != ok {
		t.Errorf("CheckAbsent(%.80q, %s, %.80q) = %v, %v; want %v, %v", apex, shown(l), name, got, good, absent, ok)
	}
}

func checkGap(t *testing.T, g impl.Gap, name string) {
	t.Helper()
	covered, ok := wantCovers(g, name)
	if got, good := impl.Covers(g, name); got != covered || good != ok {
		t.Errorf("Covers(%s, %.80q) = %v, %v; want %v, %v", shown(g), name, got, good, covered, ok)
	}
	closest, ok := wantClosestBy(g, name)
	if got, good := impl.ClosestBy(g, name); got != closest || good != ok {
		t.Errorf("ClosestBy(%s, %.80q) = %q, %v; want %q, %v", shown(g), name, got, good, closest, ok)
	}
}

func TestProofsAnswerAtAnyArguments(t *testing.T) {
	r := rand.New(rand.NewSource(84))
	good, absent := 0, 0
	for range 400 {
		z := randomLookZone(r)
		other := damagedZone(r, z)
		ring := wantRing(z)
		for _, name := range []string{randomLookName(r, z.Apex), randomText(r), damaged(r, randomLookName(r, z.Apex)), z.Records[r.Intn(len(z.Records))].Name} {
			checkGapsIn(t, z, name)
			checkGapsIn(t, other, name)
			checkGaps(t, z.Apex, ring, name)
			checkGaps(t, other.Apex, ring, name)
			few := randomGaps(r, ring, 3)
			for _, l := range [][]impl.Gap{damagedGaps(r, ring), damagedGaps(r, damagedGaps(r, ring)), few, damagedGaps(r, few)} {
				checkGaps(t, z.Apex, l, name)
				if wantGoodGaps(z.Apex, l) {
					good++
				}
				if is, _ := wantCheck(z.Apex, l, name); is {
					absent++
				}
				for _, g := range l {
					checkGap(t, g, name)
				}
			}
		}
	}
	if good < 100 || absent < 100 {
		t.Error("the gaps are all of one kind", good, absent)
	}
}

// All gaps from few names, and all lists of two of them, at all these names.
func TestAllSmallGaps(t *testing.T) {
	names := []string{"", "com", "*.com", "x.*.com", "a.com", "b.a.com", "*.a.com", "b.com", "net"}
	var gaps []impl.Gap
	for _, owner := range names {
		for _, next := range append(names, "bad..name") {
			gaps = append(gaps, gapOf(owner, next, 1))
		}
	}
	many := map[[2]bool]int{}
	for _, a := range gaps {
		for _, name := range names {
			checkGap(t, a, name)
			checkGaps(t, a.Owner, []impl.Gap{a}, name)
		}
		for _, b := range gaps {
			l := []impl.Gap{a, b}
			for _, name := range names {
				absent, ok := wantCheck("com", l, name)
				many[[2]bool{absent, ok}]++
				if got, good := impl.CheckAbsent("com", l, name); got != absent || good != ok {
					t.Errorf("CheckAbsent(%s, %q) = %v, %v; want %v, %v", shown(l), name, got, good, absent, ok)
				}
			}
			if impl.GoodGaps(a.Owner, l) != wantGoodGaps(a.Owner, l) {
				t.Errorf("GoodGaps(%s) = %v", shown(l), !wantGoodGaps(a.Owner, l))
			}
		}
	}
	if len(many) != 3 || min(many[[2]bool{true, true}], many[[2]bool{false, true}], many[[2]bool{false, false}]) < 1000 {
		t.Error("the answers are all of one kind", many)
	}
}

// All zones with at most three names from a pool of those that are in each other's way, and all names about them.
func TestProofsInAllSmallZones(t *testing.T) {
	names := []string{"com", "*.com", "x.*.com", "a.com", "b.a.com", "*.a.com", "c.b.a.com", "b.com"}
	asked := append([]string{"", "net", "*.*.com", "*.b.a.com", "z.a.com", "z.z.com", "a.b.com", "y.*.com", "*.b.com"}, names...)
	sizes := map[int]int{}
	var grow func(l []impl.Record, from int)
	grow = func(l []impl.Record, from int) {
		z := zoneOf("com", 7, l...)
		for _, name := range asked {
			checkGapsIn(t, z, name)
			proof, _ := impl.ProveAbsent(z, name)
			sizes[len(proof)]++
		}
		for i := from; i < len(names) && len(l) < 3; i++ {
			for _, made := range []impl.Record{addressOf(names[i], 1), hostOf(names[i], 2, "a.com")} {
				if fitsInto(z, made) {
					grow(append(slices.Clone(l), made), i+1)
				}
			}
		}
	}
	grow(nil, 0)
	if len(sizes) != 3 || min(sizes[0], sizes[1], sizes[2]) < 100 {
		t.Error("the proofs are all of one kind", sizes)
	}
}

func TestProofsAnswerAtWildArguments(t *testing.T) {
	long := strings.Repeat("a.", 1<<12)
	texts := []string{"", ".", "a", "*", "a.ex.com", "x.b.ex.com", "\n", "\x00", "\xff", "*.", ".*", long}
	zones := []impl.Zone{zoneOf("ex.com", 5, addressOf("b.ex.com", 1), hostOf("c.ex.com", 2, "ns")), zoneOf("", mostCounter), fullZone(40, 0)}
	for _, n := range []int{math.MinInt, math.MinInt + 1, -1, 0, 1, 2, 3, 5, 6, 15, 16, 17, 256, 257, allSerials + 1, math.MaxInt - 1, math.MaxInt} {
		for _, s := range texts {
			all := slices.Clone(zones)
			for _, l := range [][]impl.Record{nil, {}, {{}}, {{Name: s, Type: 6, Ttl: n, Data: s}}, {{Name: s, Type: 6, Data: "0"}}, {{Name: s, Type: n}}, make([]impl.Record, 40), make([]impl.Record, 500)} {
				all = append(all, impl.Zone{Apex: s, Counter: n, Records: l})
			}
			for _, z := range all {
				checkGapsIn(t, z, s)
				checkGapsIn(t, z, "none.ex.com")
			}
			for _, g := range []impl.Gap{{}, gapOf(s, s), gapOf(s, s, n), gapOf(s, "b", n), gapOf("a", s, n), gapOf("", s, 1, n), gapOf(s, "", n, n), gapOf("", "", n, 16)} {
				for _, name := range []string{s, "", "a.b", "b.ex.com"} {
					checkGap(t, g, name)
					checkGaps(t, s, []impl.Gap{g}, name)
					checkGaps(t, "", []impl.Gap{g, g}, name)
					checkGaps(t, "ex.com", []impl.Gap{gapOf("ex.com", s, 6), g}, name)
				}
			}
		}
	}
	for _, l := range [][]impl.Gap{nil, {}, make([]impl.Gap, 2), make([]impl.Gap, 3), make([]impl.Gap, 40), make([]impl.Gap, 1<<12)} {
		for _, s := range texts {
			checkGaps(t, s, l, s)
			checkGaps(t, "", l, s)
		}
	}
	for _, s := range textsOver("a*.b", 5) {
		checkGapsIn(t, zones[1], s)
		checkGap(t, gapOf("a", "b"), s)
		checkGap(t, gapOf(s, "a"), "b.a")
		checkGap(t, gapOf("a", s), "b.a")
		checkGaps(t, s, []impl.Gap{gapOf(s, s, 1)}, "b.a")
	}
}

func textsOfGaps(l []impl.Gap) []string {
	var texts []string
	for _, g := range l {
		texts = append(texts, g.Owner, g.Next)
	}
	return texts
}

// freshGaps lie in memory of their own.
func freshGaps(l []impl.Gap) []impl.Gap {
	l = cloneGaps(l)
	for i, g := range l {
		l[i].Owner, l[i].Next = strings.Clone(g.Owner), strings.Clone(g.Next)
	}
	return l
}

// wantGapsApart writes into the Types of each gap in turn, up to their end in memory, and looks at all others; their texts are apart, too.
func wantGapsApart(t *testing.T, l []impl.Gap) {
	t.Helper()
	texts := slices.DeleteFunc(textsOfGaps(l), func(s string) bool { return len(s) < 3 })
	for i := range texts {
		wantApart(t, texts[i:i+1], texts[i+1:]...)
	}
	for i := range l {
		before := cloneGaps(l)
		writeOver(l[i].Types, 99)
		for k := range l {
			if k != i && !alikeGap(l[k], before[k]) {
				t.Errorf("gaps %d and %d of one answer share memory", i, k)
			}
		}
		copy(l[i].Types, before[i].Types)
	}
}

func writeOverGaps(l []impl.Gap) {
	for _, g := range l {
		writeOver(g.Types, 99)
	}
	writeOver(l, impl.Gap{Owner: "written"})
}

func TestProofsShareNoMemory(t *testing.T) {
	r := rand.New(rand.NewSource(85))
	sizes := map[int]int{}
	for range 800 {
		z := freshZone(randomLookZone(r))
		ring := freshGaps(wantRing(z))
		name := strings.Clone(randomLookName(r, z.Apex))
		zoneBefore, ringBefore := freshZone(z), freshGaps(ring)
		given := append(append(textsOfZone(z), textsOfGaps(ring)...), name)

		told, _ := impl.GapsOf(z)
		proof, _ := impl.ProveAbsent(z, name)
		again, _ := impl.ProveAbsent(z, name)
		one, found := impl.GapFor(ring, name)
		closest, _ := impl.ClosestBy(one, name)
		sizes[len(proof)]++
		wantApart(t, slices.Concat(textsOfGaps(told), textsOfGaps(proof), []string{one.Owner, one.Next, closest}), given...)
		wantApart(t, []string{closest}, one.Owner, one.Next)
		wantGapsApart(t, told)
		wantGapsApart(t, proof)
		if found != wantBelowName(name, z.Apex) {
			t.Errorf("GapFor(%s, %q) tells %v", shown(ring), name, found)
		}
		writeOverGaps(told)
		writeOverGaps(proof)
		writeOver(one.Types, 99)
		if want, _ := wantProof(z, name); !alikeGaps(again, want) {
			t.Errorf("an answer shares memory with one told ahead: %s", shown(again))
		}
		if !alikeZones(z, zoneBefore) || !alikeGaps(ring, ringBefore) {
			t.Errorf("an answer shares memory with %s or %s", shown(zoneBefore), shown(ringBefore))
		}
	}
	if len(sizes) != 3 {
		t.Error("the proofs are all of one kind", sizes)
	}
}

// withSpareGaps puts gaps behind the list's length, of which one is not good, and types behind those of each gap.
func withSpareGaps(l []impl.Gap) []impl.Gap {
	whole := append(cloneGaps(l), gapOf("", "", 6), gapOf("bad..spare", "bad..spare"))
	for i, g := range l {
		whole[i].Types = append(slices.Clone(g.Types), 1, -1)[:len(g.Types)]
	}
	return whole[:len(l)]
}

// wholeGaps has each list up to its end in memory.
func wholeGaps(l []impl.Gap) []impl.Gap {
	whole := slices.Clone(l[:cap(l)])
	for i, g := range whole {
		whole[i].Types = slices.Clone(g.Types[:cap(g.Types)])
	}
	return whole
}

func TestProofsWriteIntoNothing(t *testing.T) {
	r := rand.New(rand.NewSource(86))
	for i := range 400 {
		z := randomLookZone(r)
		ring := wantRing(z)
		few := randomGaps(r, ring, 3)
		name := randomLookName(r, z.Apex)
		if i%4 == 0 {
			z = damagedZone(r, z)
		}
		if i%5 == 0 {
			ring, few = damagedGaps(r, ring), damagedGaps(r, few)
		}
		z.Records, ring, few = withSpareRecords(z.Records), withSpareGaps(ring), withSpareGaps(few)
		records := z.Records[:cap(z.Records)]
		recordsBefore, ringBefore, fewBefore := slices.Clone(records), wholeGaps(ring), wholeGaps(few)
		checkGapsIn(t, z, name)
		checkGapsIn(t, z, "spare")
		checkGaps(t, z.Apex, ring, name)
		checkGaps(t, z.Apex, few, name)
		for _, g := range few {
			checkGap(t, g, name)
		}
		if !slices.Equal(records, recordsBefore) || !alikeGaps(wholeGaps(ring), ringBefore) || !alikeGaps(wholeGaps(few), fewBefore) {
			t.Errorf("a zone or gaps were written into: %s, %s, %s", shown(z), shown(ring), shown(few))
		}
	}
}

// What lies behind a list's length is neither looked at nor handed out: neither records, nor gaps, nor types.
func TestNothingIsToldFromBehindGaps(t *testing.T) {
	z := zoneOf("ex.com", 5, addressOf("a.ex.com", 1))
	z.Records = append(slices.Clone(z.Records), addressOf("b.ex.com", 1), addressOf("*.ex.com", 1))[:2]
	wantGapsAre(t, z, gapOf("ex.com", "a.ex.com", 6), gapOf("a.ex.com", "ex.com", 1))
	wantProvedBy(t, z, "b.ex.com", "a.ex.com", "ex.com")
	ring := append(ringOf("ex.com", "a.ex.com"), gapOf("b.ex.com", "ex.com", 1))[:2]
	wantRingIs(t, "ex.com", ring)
	wantGapIs(t, ring, gapOf("a.ex.com", "ex.com", 1), "b.ex.com", "c.ex.com")
	wantAbsent(t, "ex.com", false, "b.ex.com", ringOf("ex.com", "a.ex.com")[:1]...)
	ring[1].Types = []int{1, 16, 1, -7}[:2]
	wantRingIs(t, "ex.com", ring)
	ring[1].Types = []int{1, 16}[:0]
	wantBadGaps(t, "ex.com", ring)
	ring[1].Types = append(make([]int, 0, 40), 1, 5, 6, 99, 98)[:3]
	one, _ := impl.GapFor(ring, "b.ex.com")
	told, _ := impl.GapsOf(zoneOf("ex.com", 5, addressOf("ex.com", 1), addressOf("ex.com", 2), addressOf("ex.com", 3)))
	for _, types := range [][]int{one.Types, told[0].Types} {
		for _, kind := range types[:cap(types)][len(types):] {
			if kind != 0 {
				t.Errorf("behind the types that are told stands %d", kind)
			}
		}
	}
	for _, g := range told[:cap(told)][len(told):] {
		if !alikeGap(g, impl.Gap{}) {
			t.Errorf("behind the gaps that are told stands %s", shown(g))
		}
	}
}
