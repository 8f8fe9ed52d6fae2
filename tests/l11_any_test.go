package tests

import (
	"math"
	"math/rand"
	"slices"
	"strings"
	"testing"

	"loop.example/g00300/impl"
)

// checkWorld tells whether the world is good.
func checkWorld(t *testing.T, w impl.World) bool {
	t.Helper()
	if impl.GoodWorld(w) != wantGoodWorld(w) {
		t.Errorf("GoodWorld(%s) = %v", shown(w), !wantGoodWorld(w))
	}
	return wantGoodWorld(w)
}

// checkNameOf asks for all that is told of a name alone, as a name and as an apex. It tells how many zones are asked.
func checkNameOf(t *testing.T, w impl.World, name string) int {
	t.Helper()
	at, ok := wantZoneFor(w, name)
	if got, good := impl.ZoneFor(w, name); got != at || good != ok {
		t.Errorf("ZoneFor(%s, %.80q) = %d, %v; want %d, %v", shown(w), name, got, good, at, ok)
	}
	reached, ok := wantReachedBy(w, name)
	if got, good := impl.ReachedBy(w, name); !slices.Equal(got, reached) || good != ok {
		t.Errorf("ReachedBy(%s, %.80q) = %q, %v; want %q, %v", shown(w), name, got, good, reached, ok)
	}
	is, ok := wantDelegated(w, name)
	if got, good := impl.IsDelegated(w, name); got != is || good != ok {
		t.Errorf("IsDelegated(%s, %.80q) = %v, %v; want %v, %v", shown(w), name, got, good, is, ok)
	}
	return len(reached)
}

// checkAskFrom tells whether the zone could be asked.
func checkAskFrom(t *testing.T, w impl.World, apex, name string, kind int) bool {
	t.Helper()
	want, ok := wantAskFrom(w, apex, name, kind)
	if got, good := impl.AskFrom(w, apex, name, kind); !alikeFounds(got, want) || good != ok {
		t.Errorf("AskFrom(%s, %.80q, %.80q, %d) = %s, %v; want %s, %v", shown(w), apex, name, kind, shown(got), good, shown(want), ok)
	}
	return ok
}

// checkResolve tells what is wanted.
func checkResolve(t *testing.T, w impl.World, name string, kind int) (impl.Told, bool) {
	t.Helper()
	want, ok := wantResolve(w, name, kind)
	if got, good := impl.Resolve(w, name, kind); !alikeTolds(got, want) || good != ok {
		t.Errorf("Resolve(%s, %.80q, %d) = %s, %v; want %s, %v", shown(w), name, kind, shown(got), good, shown(want), ok)
	}
	return want, ok
}

// checkAddZone tells whether the zone came in.
func checkAddZone(t *testing.T, w impl.World, z impl.Zone) bool {
	t.Helper()
	want, ok := wantAddZone(w, z)
	if got, good := impl.AddZone(w, z); !alikeWorlds(got, want) || good != ok {
		t.Errorf("AddZone(%s, %s) = %s, %v; want %s, %v", shown(w), shown(z), shown(got), good, shown(want), ok)
	}
	return ok
}

func TestWorldsAnswerAtAnyArguments(t *testing.T) {
	r := rand.New(rand.NewSource(113))
	good, asked, added, sizes := map[bool]int{}, map[bool]int{}, map[bool]int{}, map[int]int{}
	for range 150 {
		w := randomWorld(r)
		sizes[len(w.Zones)]++
		other := damagedWorld(r, w)
		for _, tried := range []impl.World{w, other, damagedWorld(r, other)} {
			good[checkWorld(t, tried)]++
			apex := worldApexes[r.Intn(len(worldApexes))]
			for _, name := range []string{randomWorldName(r), randomWorldName(r), randomText(r), damaged(r, randomWorldName(r)), apex} {
				checkNameOf(t, tried, name)
				checkResolve(t, tried, name, sixTypes[r.Intn(6)])
				checkResolve(t, tried, name, r.Intn(18))
				asked[checkAskFrom(t, tried, apex, name, sixTypes[r.Intn(6)])]++
				asked[checkAskFrom(t, tried, "", name, 1)]++
				asked[checkAskFrom(t, tried, name, "x."+apex, r.Intn(18))]++
			}
			z := zoneOf(apex, r.Intn(9), addressOf("x."+apex, 1))
			added[checkAddZone(t, tried, z)]++
			added[checkAddZone(t, tried, damagedZone(r, z))]++
			added[checkAddZone(t, tried, zoneOf(damaged(r, apex), 3))]++
		}
	}
	if min(good[true], good[false], asked[true], asked[false], added[true], added[false]) < 100 || len(sizes) != 6 {
		t.Error("the worlds are all of one kind", good, asked, added, sizes)
	}
}

// Random worlds tell each kind in each zone, by chains of each length, and go on for too long now and then.
func TestAllIsResolvedInRandomWorlds(t *testing.T) {
	r := rand.New(rand.NewSource(114))
	kinds, chains, zones, asks, long := map[int]int{}, map[int]int{}, map[string]int{}, map[int]int{}, 0
	for range 400 {
		w := randomWorld(r)
		if !checkWorld(t, w) {
			t.Fatalf("%s is not good", shown(w))
		}
		for range 30 {
			name, kind := randomWorldName(r), []int{1, 1, 1, 1, 16, 2, 5, 15}[r.Intn(8)]
			// The model is asked behind its own checks, which take it most of its time.
			told, ok := wantResolved(w, name, kind, impl.Told{})
			if got, good := impl.Resolve(w, name, kind); !alikeTolds(got, told) || good != ok {
				t.Errorf("Resolve(%s, %q, %d) = %s, %v; want %s, %v", shown(w), name, kind, shown(got), good, shown(told), ok)
			}
			if !ok {
				long++
				continue
			}
			kinds[told.Kind]++
			chains[len(told.Chain)]++
			zones[told.Zone]++
			asks[told.Asks]++
		}
	}
	if len(kinds) != 5 || min(kinds[1], kinds[2], kinds[3], kinds[4], kinds[5]) < 100 || len(chains) != 9 || len(zones) != 9 || len(asks) < 18 || long < 10 {
		t.Error("the worlds are all of one kind", kinds, chains, zones, asks, long)
	}
}

// subsetsOf are all ways to take some of these, in order.
func subsetsOf[T any](l []T) [][]T {
	all := [][]T{nil}
	for _, one := range l {
		for _, some := range slices.Clone(all) {
			all = append(all, append(slices.Clone(some), one))
		}
	}
	return all
}

// All worlds of three zones from few records that are in each other's way, and all names about them.
func TestAllSmallWorlds(t *testing.T) {
	pools := [][]impl.Record{
		{hostOf("a", 2, "ns"), hostOf("b.a", 2, "ns"), addressOf("b.a", 1), hostOf("x", 5, "x.b.a")},
		{hostOf("b.a", 2, "ns"), hostOf("x.a", 5, "x.b.a"), hostOf("*.b.a", 5, "x")},
		{hostOf("x.b.a", 5, "x.a"), hostOf("x.b.a", 5, "x.b.a"), addressOf("b.a", 2)},
	}
	var zones [3][]impl.Zone
	for i, apex := range []string{"", "a", "b.a"} {
		for _, l := range subsetsOf(pools[i]) {
			if z := zoneOf(apex, 7, l...); wantGoodZone(z) {
				zones[i] = append(zones[i], z)
			}
		}
	}
	several, told := 0, map[bool]int{}
	check := func(l ...impl.Zone) {
		several++
		w := impl.World{Zones: l}
		for _, name := range []string{"", "a", "b.a", "x", "x.a", "x.b.a", "y"} {
			checkNameOf(t, w, name)
			_, ok := checkResolve(t, w, name, 1)
			told[ok]++
		}
	}
	for _, root := range zones[0] {
		check(root)
		for _, a := range zones[1] {
			check(root, a)
			for _, b := range zones[2] {
				check(root, a, b)
			}
		}
		for _, b := range zones[2] {
			check(root, b)
		}
	}
	if several < 200 || min(told[true], told[false]) < 20 {
		t.Error("the worlds are all of one kind", several, told)
	}
}

func TestWorldsAnswerAtWildArguments(t *testing.T) {
	long := strings.Repeat("a.", 1<<12)
	worlds := []impl.World{{}, worldOf(zoneOf("", mostCounter)), worldOf(zoneOf("", 5, hostOf("ex.com", 2, "ns"), hostOf("b", 5, "b.ex.com")), zoneOf("ex.com", 5, hostOf("*.ex.com", 5, "b")))}
	for _, n := range []int{math.MinInt, math.MinInt + 1, -1, 0, 1, 2, 5, 6, 7, 15, 16, 17, 24, 256, 257, allSerials + 1, mostCounter + 1, math.MaxInt - 1, math.MaxInt} {
		for _, s := range []string{"", ".", "ex.com", "b", "*", "a.ex.com", "\n", "\x00", "\xff", "*.", long} {
			tried := slices.Clone(worlds)
			for _, l := range [][]impl.Record{nil, {{}}, {{Name: s, Type: 6, Ttl: n, Data: s}}, {{Name: s, Type: 6, Data: "0"}}, {{Name: s, Type: n}}, make([]impl.Record, 500)} {
				z := impl.Zone{Apex: s, Counter: n, Records: l}
				for _, w := range worlds {
					checkAddZone(t, w, z)
				}
				tried = append(tried, impl.World{Zones: []impl.Zone{z}}, worldOf(z, zoneOf("", 5)), worldOf(zoneOf("", 5), zoneOf("ex.com", 5), z))
			}
			for _, w := range tried {
				checkWorld(t, w)
				checkNameOf(t, w, s)
				checkResolve(t, w, s, n)
				checkResolve(t, w, s, 1)
				checkAskFrom(t, w, s, s, n)
				checkAskFrom(t, w, "", s, n)
				checkAskFrom(t, w, s, "ex.com", 1)
				checkAddZone(t, w, zoneOf("zz", 1))
			}
		}
	}
	for _, many := range []int{1, 5, 6, 7, 1 << 12} {
		w := impl.World{Zones: make([]impl.Zone, many)}
		checkWorld(t, w)
		checkNameOf(t, w, "")
		checkResolve(t, w, "", 1)
		checkAskFrom(t, w, "", "", 1)
		checkAddZone(t, w, zoneOf("com", 1))
	}
	for _, s := range textsOver("a*.b", 4) {
		checkNameOf(t, worlds[2], s)
		checkResolve(t, worlds[2], s, 1)
	}
}

// freshWorld lies in memory of its own.
func freshWorld(w impl.World) impl.World {
	fresh := impl.World{Zones: make([]impl.Zone, len(w.Zones))}
	for i, z := range w.Zones {
		fresh.Zones[i] = freshZone(z)
	}
	return fresh
}

func textsOfZones(zones ...impl.Zone) []string {
	var texts []string
	for _, z := range zones {
		texts = append(texts, textsOfZone(z)...)
	}
	return texts
}

// zonesAsDiffs hands the lists of zones to what looks at the lists of one answer.
func zonesAsDiffs(zones []impl.Zone) []impl.Diff {
	var diffs []impl.Diff
	for _, z := range zones {
		diffs = append(diffs, impl.Diff{Dels: z.Records})
	}
	return diffs
}

// wantZonesApart looks at all lists of one answer, and at whether the apexes are apart from the records and from each other.
func wantZonesApart(t *testing.T, zones []impl.Zone) {
	t.Helper()
	wantDiffsApart(t, zonesAsDiffs(zones)...)
	for i, z := range zones {
		if len(z.Apex) < 3 {
			continue
		}
		wantApart(t, []string{z.Apex}, textsOfRecords(z.Records)...)
		wantApart(t, []string{z.Apex}, textsOfZones(slices.Delete(slices.Clone(zones), i, i+1)...)...)
	}
}

// wantToldApart looks at the lists of what Resolve told, and at its Zone.
func wantToldApart(t *testing.T, told impl.Told) {
	t.Helper()
	wantDiffsApart(t, impl.Diff{Dels: told.Records, Adds: told.Chain})
	if len(told.Zone) > 2 {
		wantApart(t, []string{told.Zone}, append(textsOfRecords(told.Records), textsOfRecords(told.Chain)...)...)
	}
}

func writeOverZones(zones []impl.Zone) {
	for _, z := range zones {
		writeOver(z.Records, impl.Record{Name: "written"})
	}
	writeOver(zones, impl.Zone{Apex: "written"})
}

func TestWorldAnswersShareNoMemory(t *testing.T) {
	r := rand.New(rand.NewSource(115))
	kinds, chained, added := map[int]int{}, 0, 0
	for range 600 {
		w := freshWorld(randomWorld(r))
		z := freshZone(zoneOf("zz.org", 3, addressOf("a.zz.org", 1), addressOf("b.zz.org", 2)))
		name, kind := strings.Clone(randomWorldName(r)), []int{1, 1, 1, 2, 5, 16}[r.Intn(6)]
		apex := strings.Clone(w.Zones[r.Intn(len(w.Zones))].Apex)
		worldBefore, zoneBefore := freshWorld(w), freshZone(z)
		given := slices.Concat(textsOfZones(w.Zones...), textsOfZone(z), []string{name, apex})

		told, _ := impl.Resolve(w, name, kind)
		again, _ := impl.Resolve(w, name, kind)
		found, _ := impl.AskFrom(w, apex, name, kind)
		reached, _ := impl.ReachedBy(w, name)
		reachedAgain, _ := impl.ReachedBy(w, name)
		wider, ok := impl.AddZone(w, z)
		kinds[told.Kind]++
		chained += min(1, len(told.Chain))
		if ok {
			added++
		}
		wantApart(t, slices.Concat(textsOfRecords(told.Records), textsOfRecords(told.Chain), textsOfFound(found), textsOfZones(wider.Zones...), reached, []string{told.Zone}), given...)
		wantToldApart(t, told)
		wantFoundApart(t, found)
		wantZonesApart(t, wider.Zones)
		againBefore, reachedBefore := impl.Told{Kind: again.Kind, Records: freshRecords(again.Records), Chain: freshRecords(again.Chain), Zone: again.Zone, Asks: again.Asks}, slices.Clone(reachedAgain)
		for _, l := range [][]impl.Record{told.Records, told.Chain, found.Records} {
			writeOver(l, impl.Record{Name: "written"})
		}
		writeOver(reached, "written")
		writeOverZones(wider.Zones)
		if !alikeTolds(again, againBefore) || !slices.Equal(reachedAgain, reachedBefore) {
			t.Errorf("an answer shares memory with one told ahead: %s, %q", shown(again), reachedAgain)
		}
		if !alikeWorlds(w, worldBefore) || !alikeZones(z, zoneBefore) {
			t.Errorf("an answer shares memory with %s or %s", shown(worldBefore), shown(zoneBefore))
		}
	}
	if min(kinds[1], kinds[2], kinds[3], kinds[4], kinds[5]) < 5 || chained < 50 || added < 200 {
		t.Error("the answers are all of one kind", kinds, chained, added)
	}
}

// In a circle one record is told again and again, each time anew.
func TestALinkToldTwiceIsTwo(t *testing.T) {
	w := freshWorld(worldOf(zoneOf("", 5, hostOf("com", 2, "ns.com")), zoneOf("com", 5, hostOf("same.com", 5, "same.com"), hostOf("*.com", 5, "same.com"))))
	for _, name := range []string{"same.com", "other.com"} {
		told, ok := impl.Resolve(w, name, 1)
		if !ok || len(told.Chain) != 8 || len(told.Records) != 1 || told.Zone != "com" {
			t.Fatal(shown(told), ok)
		}
		wantToldApart(t, told)
		texts := longTexts(told.Chain)
		for i := range texts {
			wantApart(t, texts[i:i+1], texts[i+1:]...)
		}
		wantApart(t, append(append(textsOfRecords(told.Records), texts...), told.Zone), append(textsOfZones(w.Zones...), name)...)
	}
}

// Zones that lie in one memory when they are handed in are apart in the answer.
func TestZonesOfOneMemoryAreTwo(t *testing.T) {
	// One list of records serves two zones, one text both as an apex and as a name in all of them.
	apex := strings.Clone("some.com")
	l := freshRecords(inOrder(soaOf("com", 3), hostOf("some.com", 2, "ns.some.com"), addressOf("ns.some.com", 1)))
	for i := range l {
		if l[i].Name == apex {
			l[i].Name = apex
		}
	}
	com := impl.Zone{Apex: "com", Counter: 3, Records: l}
	below := zoneOf(apex, 3, addressOf(apex, 1))
	w := impl.World{Zones: []impl.Zone{zoneOf("", 3, hostOf("com", 2, "ns.com")), com}}
	wider, ok := impl.AddZone(w, below)
	if !ok || !alikeWorlds(wider, impl.World{Zones: append(slices.Clone(w.Zones), below)}) {
		t.Error(shown(wider), ok)
	}
	wantZonesApart(t, wider.Zones)
	wantApart(t, textsOfZones(wider.Zones...), append(textsOfRecords(l), textsOfZone(below)...)...)
	// The list of zones itself is another one, also where there was room behind it.
	roomy := impl.World{Zones: append(make([]impl.Zone, 0, 6), w.Zones...)}
	one, _ := impl.AddZone(roomy, below)
	two, _ := impl.AddZone(roomy, zoneOf("net", 1))
	if one.Zones[2].Apex != apex || two.Zones[2].Apex != "net" || roomy.Zones[:3][2].Apex != "" {
		t.Error(shown(one), shown(two))
	}
}

// withSpareZones puts zones behind a world's, of which the first would do, and records behind the lists of all.
func withSpareZones(w impl.World) impl.World {
	var zones []impl.Zone
	for _, z := range w.Zones {
		z.Records = withSpareRecords(z.Records)
		zones = append(zones, z)
	}
	w.Zones = append(zones, zoneOf("zz.spare", 3), impl.Zone{Apex: "bad..spare"})[:len(zones)]
	return w
}

// wholeZones has each list up to its end in memory.
func wholeZones(zones []impl.Zone) []impl.Zone {
	whole := slices.Clone(zones[:cap(zones)])
	for i, z := range whole {
		whole[i].Records = slices.Clone(z.Records[:cap(z.Records)])
	}
	return whole
}

func TestNoWorldIsWrittenInto(t *testing.T) {
	r := rand.New(rand.NewSource(116))
	worlds := []impl.World{{}, worldOf(zoneOf("", 1)), worldOf(zonesAt("a", "b", "c", "d", "e")...), worldOf(zonesAt("a", "b", "c", "d", "e", "f")...)}
	for range 60 {
		w := randomWorld(r)
		worlds = append(worlds, w, damagedWorld(r, w))
	}
	for _, w := range worlds {
		w = withSpareZones(w)
		z := zoneOf("0", 3, addressOf("x.0", 1))
		z.Records = withSpareRecords(z.Records)
		zonesBefore, recordsBefore := wholeZones(w.Zones), slices.Clone(z.Records[:cap(z.Records)])
		checkWorld(t, w)
		for _, name := range []string{randomWorldName(r), randomWorldName(r), "zz.spare", "spare", ""} {
			checkNameOf(t, w, name)
			checkResolve(t, w, name, []int{1, 16}[r.Intn(2)])
			checkAskFrom(t, w, name, name, 1)
			checkAskFrom(t, w, "", name, 16)
		}
		checkAddZone(t, w, z)
		checkAddZone(t, w, zoneOf("zz.spare", 4))
		if !slices.EqualFunc(wholeZones(w.Zones), zonesBefore, alikeZones) || !slices.Equal(z.Records[:cap(z.Records)], recordsBefore) {
			t.Errorf("a world or a zone was written into: %s, %s", shown(w), shown(z))
		}
	}
}

// What lies behind a list's length is neither looked at nor handed out: neither records nor zones.
func TestNothingIsToldFromBehindWorlds(t *testing.T) {
	root := zoneOf("", 5, hostOf("com", 2, "ns.com"), hostOf("l", 5, "x.com"), hostOf("spare", 2, "ns.spare"))
	zones := []impl.Zone{root, zoneOf("com", 5, addressOf("x.com", 1)), zoneOf("spare", 5, addressOf("x.spare", 1))}
	// Behind the root's records stands a cut, behind the world's zones one to which another leads.
	zones[0].Records = append(slices.Clone(root.Records), hostOf("zz", 2, "ns.zz"))[:len(root.Records)]
	w := wantWorldGood(t, zones[:2]...)
	wantReached(t, w, "", "spare", "x.spare", "zz")
	wantZoneIs(t, w, 0, "spare", "x.spare")
	wantNoDelegate(t, w, "spare")
	wantNotAskable(t, w, "spare", "x.spare", 1)
	wantTold(t, w, "x.spare", 1, tellOf{kind: impl.FoundCut, records: []string{"spare 60 2 ns.spare"}, asks: 1})
	wantTold(t, w, "zz", 1, tellOf{kind: impl.FoundNoName, asks: 1})
	wantTakenIn(t, w, zoneOf("spare", 9), "com spare")
	wantNotTakenIn(t, wantWorldGood(t, zones...), zoneOf("spare", 9))
	wantWorldBad(t, zones[:0]...)
	told, _ := impl.Resolve(w, "l", 1)
	reached, _ := impl.ReachedBy(w, "x.com")
	wider, _ := impl.AddZone(w, zoneOf("aaa", 1))
	if len(told.Chain) != 1 || len(reached) != 2 || len(wider.Zones) != 3 {
		t.Error(shown(told), reached, shown(wider))
	}
	for _, s := range reached[:cap(reached)][len(reached):] {
		if s != "" {
			t.Errorf("behind the apexes that are told stands %q", s)
		}
	}
	for _, z := range wider.Zones[:cap(wider.Zones)][len(wider.Zones):] {
		if !alikeZones(z, impl.Zone{}) {
			t.Errorf("behind the zones that are told stands %s", shown(z))
		}
	}
	lists := [][]impl.Record{told.Records, told.Chain}
	for _, z := range wider.Zones {
		lists = append(lists, z.Records)
	}
	for _, l := range lists {
		for _, r := range l[:cap(l)][len(l):] {
			if r != (impl.Record{}) {
				t.Errorf("behind what is told stands %s", shown(r))
			}
		}
	}
}

// What is told hangs on the world alone, not on what was asked ahead.
func TestWorldsAreToldAlikeEachTime(t *testing.T) {
	r := rand.New(rand.NewSource(117))
	w := randomWorld(r)
	for range 60 {
		checkResolve(t, w, "x.com", 1)
		checkResolve(t, w, randomWorldName(r), 1)
		checkNameOf(t, w, "x.a.com")
		checkAddZone(t, w, zoneOf("org", 1))
	}
}
