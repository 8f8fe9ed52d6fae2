package tests

import (
	"fmt"
	"math"
	"math/rand"
	"slices"
	"strings"
	"testing"

	"loop.example/g00300/impl"
)

// linkOf is a TypeCname record by its text.
func linkOf(from, to string) string {
	return from + " 60 5 " + to
}

// cutTo is a TypeNS record by its text.
func cutTo(apex string) string {
	return apex + " 60 2 ns.other"
}

func wantWorldGood(t *testing.T, zones ...impl.Zone) impl.World {
	t.Helper()
	w := impl.World{Zones: zones}
	if !impl.GoodWorld(w) {
		t.Errorf("GoodWorld(%s) = false", shown(w))
	}
	return w
}

// wantWorldBad asks of all functions that take a world; what else they are given would do.
func wantWorldBad(t *testing.T, zones ...impl.Zone) {
	t.Helper()
	w := impl.World{Zones: zones}
	if impl.GoodWorld(w) {
		t.Errorf("GoodWorld(%s) = true", shown(w))
	}
	names := []string{"", "com", "a.com", "x.a.com", "org", "q"}
	for _, z := range zones[:min(len(zones), 8)] {
		names = append(names, z.Apex)
	}
	for _, name := range names {
		wantNoZoneFor(t, w, name)
		wantNotReached(t, w, name)
		wantNoDelegate(t, w, name)
		for _, kind := range sixTypes {
			wantNotTold(t, w, name, kind)
			wantNotAskable(t, w, name, name, kind)
			wantNotAskable(t, w, "", name, kind)
		}
	}
	for _, apex := range []string{"", "0", "org", "zz.zz", "com"} {
		wantNotTakenIn(t, w, zoneOf(apex, 3))
	}
}

func wantZoneIs(t *testing.T, w impl.World, at int, names ...string) {
	t.Helper()
	for _, name := range names {
		if got, ok := impl.ZoneFor(w, name); got != at || !ok {
			t.Errorf("ZoneFor(%q) = %d, %v; want %d", name, got, ok, at)
		}
	}
}

func wantNoZoneFor(t *testing.T, w impl.World, names ...string) {
	t.Helper()
	for _, name := range names {
		if got, ok := impl.ZoneFor(w, name); got != 0 || ok {
			t.Errorf("ZoneFor(%.80q) = %d, %v; want the zero answer", name, got, ok)
		}
	}
}

func wantAsked(t *testing.T, w impl.World, apex, name string, kind int, found int, owner string, texts ...string) {
	t.Helper()
	got, ok := impl.AskFrom(w, apex, name, kind)
	if !ok || got.Kind != found || got.Owner != owner || !slices.Equal(textsFrom(got.Records), texts) || len(got.Chain) != 0 {
		t.Errorf("AskFrom(%q, %q, %d) = %s, %v; want %d, %q, %q", apex, name, kind, shown(got), ok, found, owner, texts)
	}
}

func wantNotAskable(t *testing.T, w impl.World, apex, name string, kind int) {
	t.Helper()
	if got, ok := impl.AskFrom(w, apex, name, kind); !alikeFounds(got, impl.Found{}) || ok {
		t.Errorf("AskFrom(%.80q, %.80q, %d) = %s, %v; want the zero answer", apex, name, kind, shown(got), ok)
	}
}

// wantReached asks for the apexes behind the root's, with blanks between.
func wantReached(t *testing.T, w impl.World, apexes string, names ...string) {
	t.Helper()
	want := append([]string{""}, strings.Fields(apexes)...)
	for _, name := range names {
		if got, ok := impl.ReachedBy(w, name); !slices.Equal(got, want) || !ok {
			t.Errorf("ReachedBy(%q) = %q, %v; want %q", name, got, ok, want)
		}
	}
}

func wantNotReached(t *testing.T, w impl.World, names ...string) {
	t.Helper()
	for _, name := range names {
		if got, ok := impl.ReachedBy(w, name); len(got) != 0 || ok {
			t.Errorf("ReachedBy(%.80q) = %q, %v; want the zero answer", name, got, ok)
		}
	}
}

func wantIsDelegated(t *testing.T, w impl.World, is bool, apexes ...string) {
	t.Helper()
	for _, apex := range apexes {
		if got, ok := impl.IsDelegated(w, apex); got != is || !ok {
			t.Errorf("IsDelegated(%q) = %v, %v; want %v", apex, got, ok, is)
		}
	}
}

func wantNoDelegate(t *testing.T, w impl.World, apexes ...string) {
	t.Helper()
	for _, apex := range apexes {
		if got, ok := impl.IsDelegated(w, apex); got || ok {
			t.Errorf("IsDelegated(%.80q) = %v, %v; want the zero answer", apex, got, ok)
		}
	}
}

// tellOf is what is wanted of Resolve, its records told by their texts.
type tellOf struct {
	kind    int
	records []string
	chain   []string
	zone    string
	asks    int
}

func wantTold(t *testing.T, w impl.World, name string, kind int, want tellOf) {
	t.Helper()
	got, ok := impl.Resolve(w, name, kind)
	same := got.Kind == want.kind && slices.Equal(textsFrom(got.Records), want.records) && slices.Equal(textsFrom(got.Chain), want.chain)
	if !ok || !same || got.Zone != want.zone || got.Asks != want.asks {
		t.Errorf("Resolve(%q, %d) = %s, %v; want %s", name, kind, shown(got), ok, fmt.Sprintf("%+v", want))
	}
}

func wantNotTold(t *testing.T, w impl.World, name string, kind int) {
	t.Helper()
	if got, ok := impl.Resolve(w, name, kind); !alikeTolds(got, impl.Told{}) || ok {
		t.Errorf("Resolve(%.80q, %d) = %s, %v; want the zero answer", name, kind, shown(got), ok)
	}
}

func wantTakenIn(t *testing.T, w impl.World, z impl.Zone, apexes string) impl.World {
	t.Helper()
	got, ok := impl.AddZone(w, z)
	want := worldOf(append(slices.Clone(w.Zones), z)...)
	var there []string
	for _, zone := range got.Zones[min(1, len(got.Zones)):] {
		there = append(there, zone.Apex)
	}
	if !ok || !alikeWorlds(got, want) || strings.Join(there, " ") != apexes || !impl.GoodWorld(got) {
		t.Errorf("AddZone(%s, %s) = %s, %v; want %s", shown(w), shown(z), shown(got), ok, shown(want))
	}
	return got
}

func wantNotTakenIn(t *testing.T, w impl.World, z impl.Zone) {
	t.Helper()
	if got, ok := impl.AddZone(w, z); !alikeWorlds(got, impl.World{}) || ok {
		t.Errorf("AddZone(%s, %s) = %s, %v; want the zero answer", shown(w), shown(z), shown(got), ok)
	}
}

// zonesAt are zones without records of their own, the root's ahead.
func zonesAt(apexes ...string) []impl.Zone {
	zones := []impl.Zone{zoneOf("", 1)}
	for i, apex := range apexes {
		zones = append(zones, zoneOf(apex, 2+i))
	}
	return zones
}

// deepWorld has so many zones, each below the one ahead, with a cut that leads to the next; the last of its cuts leads to none. The records come to the zones in turn.
func deepWorld(t *testing.T, many int, records ...[]string) impl.World {
	t.Helper()
	var zones []impl.Zone
	apex := ""
	for i := range many {
		next := strings.TrimSuffix(fmt.Sprintf("d%d.%s", i+1, apex), ".")
		texts := []string{cutTo(next)}
		if i < len(records) {
			texts = append(texts, records[i]...)
		}
		zones = append(zones, zoneWith(t, apex, texts...))
		apex = next
	}
	return wantWorldGood(t, zones...)
}

// badZones are zones that are not good, of an apex that would do in a world or not.
func badZones() []impl.Zone {
	good := zoneOf("com", 7, addressOf("a.com", 1))
	zones := []impl.Zone{{}, {Apex: "com"}, {Apex: "com", Counter: 7}, {Apex: "com", Records: good.Records}, zoneOf("*", 7), zoneOf("*.com", 7), zoneOf("Com", 7), zoneOf(".", 7), zoneOf("com.", 7), zoneOf("a..com", 7)}
	for _, counter := range []int{6, 8, -1, math.MinInt, math.MaxInt, 7 + mostCounter} {
		zones = append(zones, impl.Zone{Apex: "com", Counter: counter, Records: good.Records})
	}
	for _, counter := range []int{-1, mostCounter + 1, math.MinInt, math.MaxInt} {
		zones = append(zones, zoneOf("com", counter))
	}
	for _, l := range [][]impl.Record{good.Records[1:], {good.Records[1], good.Records[0]}, append(slices.Clone(good.Records), good.Records[1]), append(slices.Clone(good.Records), addressOf("net", 1)), make([]impl.Record, 1), make([]impl.Record, 1000)} {
		zones = append(zones, impl.Zone{Apex: "com", Counter: 7, Records: l})
	}
	return append(zones, zoneOf("com", 7, hostOf("com", 5, "x")), zoneOf("com", 7, addressOf("x.com", 1), hostOf("x.com", 5, "y")), zoneOf("com", 7, hostOf("x.com", 2, "y"), noteOf("x.com", "z")), fullZone(41, 7), impl.Zone{Apex: "net", Counter: 7, Records: good.Records})
}

func TestTheConstantsOfWorlds(t *testing.T) {
	if impl.MaxZones != 6 || impl.MaxAsks != 24 {
		t.Error(impl.MaxZones, impl.MaxAsks)
	}
}

func TestGoodWorlds(t *testing.T) {
	wantWorldGood(t, zoneOf("", 0))
	wantWorldGood(t, zoneOf("", mostCounter))
	wantWorldGood(t, zonesAt("com")...)
	wantWorldGood(t, zonesAt("a.b.c.d.e.f.g.h")...)
	wantWorldGood(t, zonesAt("com", "net")...)
	wantWorldGood(t, zonesAt("com", "a.com", "b.a.com", "net", "a.net")...)
	// The labels are compared from the right: what is below a stands ahead of b.
	wantWorldGood(t, zonesAt("a", "z.a", "y.z.a", "b", "a.b")...)
	wantWorldGood(t, zonesAt("-", "0", "_", "a", label20)...)
	full := fullZone(40, allSerials+3)
	wantWorldGood(t, zoneOf("", 0), full)
	// Zones may tell of names that other zones tell of, and no cut need lead to one.
	wantWorldGood(t, zoneOf("", 4, addressOf("a.com", 1)), zoneOf("com", 4, addressOf("a.com", 2)), zoneOf("a.com", 4, addressOf("a.com", 3)))
}

func TestWorldsOfTooFewOrTooManyZones(t *testing.T) {
	wantWorldBad(t)
	wantWorldBad(t, []impl.Zone{}...)
	six := zonesAt("a", "b", "c", "d", "e")
	wantWorldGood(t, six...)
	wantWorldBad(t, zonesAt("a", "b", "c", "d", "e", "f")...)
	var many []string
	for i := range 100 {
		many = append(many, fmt.Sprintf("n%03d", i))
	}
	wantWorldGood(t, zonesAt(many[:5]...)...)
	for _, more := range []int{6, 7, 23, 100} {
		wantWorldBad(t, zonesAt(many[:more]...)...)
	}
	wantWorldBad(t, make([]impl.Zone, 1)...)
	wantWorldBad(t, make([]impl.Zone, 6)...)
	wantWorldBad(t, make([]impl.Zone, 1<<16)...)
}

func TestTheFirstZoneIsTheRoots(t *testing.T) {
	wantWorldBad(t, zoneOf("com", 1))
	wantWorldBad(t, zoneOf("com", 1), zoneOf("net", 1))
	wantWorldBad(t, zoneOf("com", 1), zoneOf("", 1))
	wantWorldBad(t, zoneOf("com", 1), zoneOf("a.com", 1), zoneOf("b.com", 1))
	wantWorldBad(t, zonesAt("com", "net")[1:]...)
}

func TestZonesOfAWorldRise(t *testing.T) {
	for _, apexes := range []string{"net com", "a.com com", "com net a.com", "b.a.com a.com com", "a b z.a", "a b y.a c", "b.com a.com", "z.a a.b b"} {
		wantWorldBad(t, zonesAt(strings.Fields(apexes)...)...)
	}
	for _, apexes := range []string{"com com", "com net net", "a a b", "a b a", "com a.com a.com net"} {
		wantWorldBad(t, zonesAt(strings.Fields(apexes)...)...)
	}
	// Two with one apex, whatever their counters and records are.
	wantWorldBad(t, zoneOf("", 1), zoneOf("", 1))
	wantWorldBad(t, zoneOf("", 1), zoneOf("", 2, addressOf("x", 1)))
	wantWorldBad(t, zoneOf("", 1), zoneOf("com", 1), zoneOf("com", 2, addressOf("x.com", 1)))
	for _, z := range zonesAt("com", "a.com", "net") {
		twice := worldOf(append(zonesAt("com", "a.com", "net"), z)...)
		wantWorldBad(t, twice.Zones...)
	}
}

func TestWorldsWithAZoneThatIsNotGood(t *testing.T) {
	for _, z := range badZones() {
		wantWorldBad(t, z)
		wantWorldBad(t, zoneOf("", 1), z)
		wantWorldBad(t, zoneOf("", 1), zoneOf("a", 1), z)
		wantWorldBad(t, zoneOf("", 1), z, zoneOf("zz", 1))
		z.Apex = ""
		wantWorldBad(t, z, zoneOf("com", 1))
	}
	// One such zone anywhere, of all the others none is asked then.
	for at := range 6 {
		w := deepWorld(t, 6)
		z := w.Zones[at]
		z.Counter++
		w.Zones[at] = z
		wantWorldBad(t, w.Zones...)
	}
}

func TestZonesAreAdded(t *testing.T) {
	w := wantWorldGood(t, zoneOf("", 1, addressOf("x", 1)))
	w = wantTakenIn(t, w, zoneOf("m", 2, addressOf("x.m", 1)), "m")
	// Ahead of the others, between them, and behind all.
	w = wantTakenIn(t, w, zoneOf("a", 0), "a m")
	w = wantTakenIn(t, w, zoneOf("z", mostCounter), "a m z")
	w = wantTakenIn(t, w, zoneOf("z.a", 9, hostOf("c.z.a", 2, "ns")), "a z.a m z")
	w = wantTakenIn(t, w, zoneOf("b.z.a", 9), "a z.a b.z.a m z")
	// The sixth one was the last one.
	for _, apex := range []string{"0", "a.a", "l", "m.m", "n", "zz", "a.z", labels8} {
		wantNotTakenIn(t, w, zoneOf(apex, 1))
	}
	// The order in which they come does not matter.
	one := wantWorldGood(t, zonesAt("com")...)
	two := wantTakenIn(t, wantTakenIn(t, one, zoneOf("a.com", 1), "com a.com"), zoneOf("net", 1), "com a.com net")
	also := wantTakenIn(t, wantTakenIn(t, one, zoneOf("net", 1), "com net"), zoneOf("a.com", 1), "com a.com net")
	if !alikeWorlds(two, also) {
		t.Error(shown(two), shown(also))
	}
	// No cut need lead to a zone that comes.
	wantIsDelegated(t, two, false, "com", "a.com", "net")
}

func TestZonesThatAreNotAdded(t *testing.T) {
	w := wantWorldGood(t, zonesAt("com", "a.com", "net")...)
	for _, z := range w.Zones {
		wantNotTakenIn(t, w, z)
		wantNotTakenIn(t, w, zoneOf(z.Apex, 99))
		wantNotTakenIn(t, w, zoneOf(z.Apex, z.Counter+1, addressOf(strings.TrimSuffix("x."+z.Apex, "."), 1)))
	}
	root := wantWorldGood(t, zoneOf("", 1))
	wantNotTakenIn(t, root, zoneOf("", 1))
	wantNotTakenIn(t, root, zoneOf("", 2))
	for _, z := range badZones() {
		wantNotTakenIn(t, w, z)
		wantNotTakenIn(t, root, z)
		wantNotTakenIn(t, impl.World{}, z)
		wantNotTakenIn(t, impl.World{Zones: []impl.Zone{z}}, zoneOf("org", 1))
	}
	// A world without the root's zone is none, though it would become one.
	wantNotTakenIn(t, impl.World{}, zoneOf("", 1))
	wantNotTakenIn(t, impl.World{}, zoneOf("com", 1))
	wantNotTakenIn(t, impl.World{Zones: []impl.Zone{zoneOf("com", 1)}}, zoneOf("", 1))
	wantNotTakenIn(t, impl.World{Zones: zonesAt("net", "com")}, zoneOf("org", 1))
	full := wantWorldGood(t, zonesAt("a", "b", "c", "d", "e")...)
	wantNotTakenIn(t, full, zoneOf("f", 1))
	wantNotTakenIn(t, full, zoneOf("a", 1))
	wantNotTakenIn(t, full, zoneOf("", 1))
	wantNotTakenIn(t, impl.World{Zones: zonesAt("a", "b", "c", "d", "e", "f")}, zoneOf("g", 1))
}

func TestTheZoneForAName(t *testing.T) {
	w := wantWorldGood(t, zonesAt("com", "a.com", "c.b.a.com", "net")...)
	wantZoneIs(t, w, 0, "", "org", "a.org", "*", "*.org", "co", "comm", "acom", "com.org", "a.com.org", "ne", name60, labels8)
	wantZoneIs(t, w, 1, "com", "b.com", "*.com", "aa.com", "x.b.com", "c.b.com", "a.b.com", "com.com")
	// Below two of them, or three, the longest one counts.
	wantZoneIs(t, w, 2, "a.com", "x.a.com", "*.a.com", "b.a.com", "x.b.a.com", "cc.b.a.com", "a.com.a.com", "com.a.com")
	wantZoneIs(t, w, 3, "c.b.a.com", "x.c.b.a.com", "*.c.b.a.com", "1.2.3.4.c.b.a.com")
	wantZoneIs(t, w, 4, "net", "com.net", "a.com.net")
	wantNoZoneFor(t, w, badNames()...)
	wantNoZoneFor(t, w, "Com", "com.", ".com", "a..com", "a*.com", "1.2.3.4.5.c.b.a.com", "x y.com")
	root := wantWorldGood(t, zoneOf("", 1, hostOf("com", 2, "ns")))
	wantZoneIs(t, root, 0, goodNames()...)
	wantNoZoneFor(t, root, badNames()...)
	// No cut need lead to it, and one that leads elsewhere does not matter.
	also := wantWorldGood(t, zoneOf("", 1, hostOf("com", 2, "ns")), zoneOf("a.com", 1))
	wantZoneIs(t, also, 1, "a.com", "x.a.com")
	wantZoneIs(t, also, 0, "com", "b.com")
	// Apexes that stand behind in the order, but are not above.
	many := wantWorldGood(t, zonesAt("a", "y.a", "z.a", "b", "c")...)
	for i, apex := range []string{"", "a", "y.a", "z.a", "b", "c"} {
		wantZoneIs(t, many, i, apex, strings.TrimSuffix("q."+apex, "."), strings.TrimSuffix("*."+apex, "."))
	}
}

func TestAskingOneZone(t *testing.T) {
	w := wantWorldGood(t,
		zoneWith(t, "", cutTo("com"), "x.com 60 1 1.1.1.1", "* 60 16 star", "l 60 5 x.com"),
		zoneWith(t, "com", "com 50 2 ns.com", "x.com 60 1 2.2.2.2", "x.com 60 1 1.2.3.4", cutTo("a.com"), linkOf("l.com", "m.com"), "d.e.com 60 16 deep", "*.s.com 60 1 3.3.3.3"),
		zoneWith(t, "a.com", "a.com 60 15 5 mx.a.com"),
	)
	// Each zone tells by itself: other zones, and whether a cut leads to it, do not matter.
	wantAsked(t, w, "", "x.com", 1, impl.FoundCut, "com", cutTo("com"))
	wantAsked(t, w, "com", "x.com", 1, impl.FoundData, "x.com", "x.com 60 1 1.2.3.4", "x.com 60 1 2.2.2.2")
	wantAsked(t, w, "com", "x.com", 16, impl.FoundNone, "x.com")
	wantAsked(t, w, "com", "com", 2, impl.FoundData, "com", "com 50 2 ns.com")
	wantAsked(t, w, "com", "l.com", 1, impl.FoundCname, "l.com", linkOf("l.com", "m.com"))
	wantAsked(t, w, "com", "l.com", 5, impl.FoundData, "l.com", linkOf("l.com", "m.com"))
	wantAsked(t, w, "com", "q.com", 1, impl.FoundNoName, "com")
	wantAsked(t, w, "com", "e.com", 1, impl.FoundNone, "e.com")
	wantAsked(t, w, "com", "q.s.com", 1, impl.FoundData, "*.s.com", "q.s.com 60 1 3.3.3.3")
	wantAsked(t, w, "com", "b.a.com", 1, impl.FoundCut, "a.com", cutTo("a.com"))
	wantAsked(t, w, "a.com", "a.com", 15, impl.FoundData, "a.com", "a.com 60 15 5 mx.a.com")
	wantAsked(t, w, "a.com", "x.com", 1, impl.FoundNot, "")
	wantAsked(t, w, "com", "", 1, impl.FoundNot, "")
	wantAsked(t, w, "", "", 1, impl.FoundNone, "")
	wantAsked(t, w, "", "q", 16, impl.FoundData, "*", "q 60 16 star")
	// TypeSoa is asked for at the apex of that zone alone.
	for _, apex := range []string{"", "com", "a.com"} {
		for _, name := range []string{"", "com", "a.com", "x.com", "q"} {
			if name == apex {
				wantAsked(t, w, apex, name, 6, impl.FoundData, name, textsFrom([]impl.Record{soaOf(apex, 7)})...)
			} else {
				wantNotAskable(t, w, apex, name, 6)
			}
		}
	}
}

func TestZonesThatCanNotBeAsked(t *testing.T) {
	w := wantWorldGood(t, zoneWith(t, "", cutTo("com")), zoneWith(t, "com", cutTo("a.com"), "x.com 60 1 1.1.1.1"), zoneWith(t, "b.com", "b.com 60 1 1.1.1.1"))
	// No zone has that apex, though names lie below one, or a cut is there.
	for _, apex := range append(badNames(), "a.com", "x.com", "co", "net", "*", "*.com", "Com", "com.", "x.b.com") {
		for _, name := range []string{"", "com", "x.com", "b.com", apex} {
			wantNotAskable(t, w, apex, name, 1)
		}
	}
	for _, apex := range []string{"", "com", "b.com"} {
		for _, kind := range []int{0, -1, 3, 4, 7, 14, 17, 256, 257, allSerials + 1, math.MinInt, math.MinInt + 1, math.MaxInt - 1, math.MaxInt} {
			for _, name := range []string{"", "com", "x.com", "b.com", "q"} {
				wantNotAskable(t, w, apex, name, kind)
				wantNotTold(t, w, name, kind)
			}
		}
		for _, name := range append(badNames(), "X.com", "x..com") {
			for _, kind := range sixTypes {
				wantNotAskable(t, w, apex, name, kind)
			}
		}
	}
}

func TestWhatIsReached(t *testing.T) {
	w := wantWorldGood(t,
		zoneWith(t, "", cutTo("com"), cutTo("org"), "x 60 1 1.1.1.1", "net 60 16 x", cutTo("*")),
		zoneWith(t, "com", "com 60 2 ns.com", cutTo("a.com"), cutTo("b.com"), cutTo("d.c.com")),
		zoneWith(t, "a.com", cutTo("k.a.com")),
		zoneWith(t, "k.a.com", "x.k.a.com 60 1 1.1.1.1"),
		zoneWith(t, "net", cutTo("a.net")),
		zoneWith(t, "a.org", "a.org 60 1 1.1.1.1"),
	)
	// No cut is above, or it leads to no zone.
	wantReached(t, w, "", "", "x", "y", "y.x", "org", "q.org", "*", "x.*", "co")
	wantReached(t, w, "com", "com", "q.com", "*.com", "c.com", "d.com", "b.com", "q.b.com", "d.c.com", "q.d.c.com", "aa.com", "k.com", "a.b.com")
	// One leads on over two and three zones.
	wantReached(t, w, "com a.com", "a.com", "q.a.com", "*.a.com", "kk.a.com", "com.a.com")
	wantReached(t, w, "com a.com k.a.com", "k.a.com", "x.k.a.com", "q.k.a.com", "*.k.a.com", "a.com.k.a.com")
	// A zone is there, but no cut leads to it: neither it nor what it would lead to is reached.
	wantReached(t, w, "", "net", "a.net", "q.a.net")
	// A zone lies below a cut that leads to no zone.
	wantReached(t, w, "", "a.org", "q.a.org")
	wantNotReached(t, w, badNames()...)
	wantNotReached(t, w, "Com", "x..com", "com.", "*x.com")
	wantReached(t, wantWorldGood(t, zoneOf("", 1)), "", goodNames()...)
}

// A cut may leave out a zone that lies between: the nearest cut to the apex counts, not the nearest zone.
func TestCutsLeaveZonesOut(t *testing.T) {
	w := wantWorldGood(t,
		zoneWith(t, "", cutTo("b.com")),
		zoneWith(t, "com", cutTo("b.com"), cutTo("c.com")),
		zoneWith(t, "b.com", cutTo("d.c.b.com")),
		zoneWith(t, "c.b.com", cutTo("d.c.b.com")),
		zoneWith(t, "d.c.b.com", "x.d.c.b.com 60 1 1.1.1.1"),
		zoneWith(t, "c.com"),
	)
	wantReached(t, w, "", "com", "c.com", "a.com")
	wantReached(t, w, "b.com", "b.com", "c.b.com", "q.c.b.com", "q.b.com")
	wantReached(t, w, "b.com d.c.b.com", "d.c.b.com", "x.d.c.b.com")
	wantIsDelegated(t, w, true, "", "b.com", "d.c.b.com")
	wantIsDelegated(t, w, false, "com", "c.com", "c.b.com")
	wantTold(t, w, "x.d.c.b.com", 1, tellOf{kind: impl.FoundData, records: []string{"x.d.c.b.com 60 1 1.1.1.1"}, zone: "d.c.b.com", asks: 3})
	wantTold(t, w, "x.c.b.com", 1, tellOf{kind: impl.FoundNoName, zone: "b.com", asks: 2})
	// A cut may be above another one, in whose place no TypeNS record may stand: the first one leads on, to a zone or to none.
	above := wantWorldGood(t, zoneWith(t, "", cutTo("com"), "ns.a.com 60 1 1.1.1.1"), zoneWith(t, "a.com", "x.a.com 60 1 1.1.1.1"))
	wantReached(t, above, "", "com", "a.com", "x.a.com", "ns.a.com")
	wantIsDelegated(t, above, false, "a.com")
	wantTold(t, above, "x.a.com", 1, tellOf{kind: impl.FoundCut, records: []string{cutTo("com")}, asks: 1})
}

func TestDelegated(t *testing.T) {
	w := wantWorldGood(t,
		zoneWith(t, "", ". 60 2 ns.other", cutTo("com"), cutTo("org")),
		zoneWith(t, "com", "com 60 2 ns.com", cutTo("a.com")),
		zoneWith(t, "a.com", "a.com 60 1 1.1.1.1"),
		zoneWith(t, "b.com", "b.com 60 2 ns.b.com"),
		zoneWith(t, "net", "net 60 2 ns.net"),
		zoneWith(t, "a.org"),
	)
	// Behind the apex of com another cut lies, which does not matter.
	wantIsDelegated(t, w, true, "", "com", "a.com")
	// TypeNS records at its own apex lead nowhere.
	wantIsDelegated(t, w, false, "b.com", "net", "a.org")
	wantNoDelegate(t, w, append(badNames(), "org", "c.com", "x.a.com", "co", "*", "*.com", "Com", "ns.com")...)
	root := wantWorldGood(t, zoneOf("", 1))
	wantIsDelegated(t, root, true, "")
	wantNoDelegate(t, root, append(badNames(), goodNames()[1:]...)...)
	deep := deepWorld(t, 6)
	for _, z := range deep.Zones {
		wantIsDelegated(t, deep, true, z.Apex)
	}
	// Without one of them those behind it are not reached any more.
	for gone := 1; gone < 6; gone++ {
		less := wantWorldGood(t, slices.Delete(slices.Clone(deep.Zones), gone, gone+1)...)
		for i, z := range deep.Zones {
			if i == gone {
				wantNoDelegate(t, less, z.Apex)
			} else {
				wantIsDelegated(t, less, i < gone, z.Apex)
			}
		}
	}
}

func TestEachKindIsTold(t *testing.T) {
	fromRoot := []string{"here 60 1 1.1.1.9", "here 60 1 1.1.1.10", "here 60 16 note", "*.wild 60 1 7.7.7.7", cutTo("gone"), "ns.gone 60 1 9.9.9.9"}
	fromDeep := []string{"here.d2.d1 60 1 2.2.2.2", "*.wild.d2.d1 60 1 8.8.8.8", cutTo("gone.d2.d1"), "ns.gone.d2.d1 60 1 9.9.9.9"}
	w := deepWorld(t, 3, fromRoot, []string{"here.d1 60 16 note"}, fromDeep)
	for _, kind := range []int{1, 2, 5, 15, 16} {
		// A cut whose zone is not there, asked at it and below it, also where the zone has a TypeA record.
		for _, name := range []string{"gone", "q.gone", "ns.gone", "*.gone"} {
			wantTold(t, w, name, kind, tellOf{kind: impl.FoundCut, records: []string{cutTo("gone")}, asks: 1})
			wantTold(t, w, name+".d2.d1", kind, tellOf{kind: impl.FoundCut, records: []string{cutTo("gone.d2.d1")}, zone: "d2.d1", asks: 3})
		}
		wantTold(t, w, "q", kind, tellOf{kind: impl.FoundNoName, asks: 1})
		wantTold(t, w, "q.here", kind, tellOf{kind: impl.FoundNoName, asks: 1})
		wantTold(t, w, "q.d1", kind, tellOf{kind: impl.FoundNoName, zone: "d1", asks: 2})
		wantTold(t, w, "q.d2.d1", kind, tellOf{kind: impl.FoundNoName, zone: "d2.d1", asks: 3})
		wantTold(t, w, "wild", kind, tellOf{kind: impl.FoundNone, asks: 1})
		wantTold(t, w, "wild.d2.d1", kind, tellOf{kind: impl.FoundNone, zone: "d2.d1", asks: 3})
		// At an apex the zone of that apex tells, not the one with the cut.
		wantTold(t, w, "d1", kind, tellOf{kind: impl.FoundNone, zone: "d1", asks: 2})
		wantTold(t, w, "d2.d1", kind, tellOf{kind: impl.FoundNone, zone: "d2.d1", asks: 3})
	}
	wantTold(t, w, "", 1, tellOf{kind: impl.FoundNone, asks: 1})
	wantTold(t, w, "here", 1, tellOf{kind: impl.FoundData, records: []string{"here 60 1 1.1.1.9", "here 60 1 1.1.1.10"}, asks: 1})
	wantTold(t, w, "here", 16, tellOf{kind: impl.FoundData, records: []string{"here 60 16 note"}, asks: 1})
	wantTold(t, w, "here", 15, tellOf{kind: impl.FoundNone, asks: 1})
	wantTold(t, w, "here", 5, tellOf{kind: impl.FoundNone, asks: 1})
	wantTold(t, w, "x.wild", 1, tellOf{kind: impl.FoundData, records: []string{"x.wild 60 1 7.7.7.7"}, asks: 1})
	wantTold(t, w, "here.d1", 16, tellOf{kind: impl.FoundData, records: []string{"here.d1 60 16 note"}, zone: "d1", asks: 2})
	wantTold(t, w, "here.d2.d1", 1, tellOf{kind: impl.FoundData, records: []string{"here.d2.d1 60 1 2.2.2.2"}, zone: "d2.d1", asks: 3})
	wantTold(t, w, "here.d2.d1", 16, tellOf{kind: impl.FoundNone, zone: "d2.d1", asks: 3})
	wantTold(t, w, "y.x.wild.d2.d1", 1, tellOf{kind: impl.FoundData, records: []string{"y.x.wild.d2.d1 60 1 8.8.8.8"}, zone: "d2.d1", asks: 3})
}

func TestTypesAndNamesThatAreNotResolved(t *testing.T) {
	w := deepWorld(t, 3, []string{"here 60 1 1.1.1.1", linkOf("l", "here")}, []string{"d1 60 2 ns.d1"})
	// TypeSoa is not resolved, not even at an apex.
	for _, name := range []string{"", "d1", "d2.d1", "here", "l", "q", "q.d1", "d3.d2.d1"} {
		wantNotTold(t, w, name, impl.TypeSoa)
		for _, kind := range []int{0, -1, 3, 4, 7, 14, 17, 255, 256, 257, allSerials + 1, math.MinInt, math.MinInt + 1, math.MaxInt - 1, math.MaxInt} {
			wantNotTold(t, w, name, kind)
		}
	}
	for _, name := range append(badNames(), "Here", "here.", "q..d1", ".d1", "h*re") {
		for _, kind := range sixTypes {
			wantNotTold(t, w, name, kind)
		}
	}
	wantTold(t, w, "d1", impl.TypeNS, tellOf{kind: impl.FoundData, records: []string{"d1 60 2 ns.d1"}, zone: "d1", asks: 2})
}

// What a TypeCname record leads to is asked for from the root on, wherever it was told.
func TestLinksLeadFromZoneToZone(t *testing.T) {
	w := wantWorldGood(t,
		zoneWith(t, "", cutTo("com"), cutTo("net"), linkOf("up", "l.com"), "end 60 1 1.1.1.1", "end 60 16 x", cutTo("gone")),
		zoneWith(t, "com", cutTo("a.com"), linkOf("l.com", "x.a.com"), linkOf("back.com", "end"), linkOf("side.com", "y.net"), linkOf("lost.com", "q.gone"), linkOf("none.com", "q.net"), linkOf("own.com", "z.com"), "z.com 60 1 4.4.4.4", linkOf("apex.com", "net"), linkOf("cut.com", "a.com"), linkOf("*.s.com", "z.com"), linkOf("t.com", "u.s.com")),
		zoneWith(t, "a.com", "x.a.com 60 1 2.2.2.2", linkOf("deep.a.com", "back.com"), linkOf("out.a.com", "nowhere")),
		zoneWith(t, "net", "y.net 60 1 3.3.3.3", "net 60 16 n"),
	)
	wantTold(t, w, "l.com", 1, tellOf{impl.FoundData, []string{"x.a.com 60 1 2.2.2.2"}, []string{linkOf("l.com", "x.a.com")}, "a.com", 5})
	wantTold(t, w, "up", 1, tellOf{impl.FoundData, []string{"x.a.com 60 1 2.2.2.2"}, []string{linkOf("up", "l.com"), linkOf("l.com", "x.a.com")}, "a.com", 6})
	// Back from the root, whose zone tells it by one ask.
	wantTold(t, w, "back.com", 1, tellOf{impl.FoundData, []string{"end 60 1 1.1.1.1"}, []string{linkOf("back.com", "end")}, "", 3})
	wantTold(t, w, "back.com", 15, tellOf{impl.FoundNone, nil, []string{linkOf("back.com", "end")}, "", 3})
	wantTold(t, w, "deep.a.com", 16, tellOf{impl.FoundData, []string{"end 60 16 x"}, []string{linkOf("deep.a.com", "back.com"), linkOf("back.com", "end")}, "", 6})
	wantTold(t, w, "side.com", 1, tellOf{impl.FoundData, []string{"y.net 60 1 3.3.3.3"}, []string{linkOf("side.com", "y.net")}, "net", 4})
	wantTold(t, w, "apex.com", 16, tellOf{impl.FoundData, []string{"net 60 16 n"}, []string{linkOf("apex.com", "net")}, "net", 4})
	// Within one zone it begins at the root, too.
	wantTold(t, w, "own.com", 1, tellOf{impl.FoundData, []string{"z.com 60 1 4.4.4.4"}, []string{linkOf("own.com", "z.com")}, "com", 4})
	wantTold(t, w, "cut.com", 1, tellOf{impl.FoundNone, nil, []string{linkOf("cut.com", "a.com")}, "a.com", 5})
	wantTold(t, w, "lost.com", 1, tellOf{impl.FoundCut, []string{cutTo("gone")}, []string{linkOf("lost.com", "q.gone")}, "", 3})
	wantTold(t, w, "none.com", 1, tellOf{impl.FoundNoName, nil, []string{linkOf("none.com", "q.net")}, "net", 4})
	wantTold(t, w, "out.a.com", 1, tellOf{impl.FoundNoName, nil, []string{linkOf("out.a.com", "nowhere")}, "", 4})
	// A star's record is told of the name that was asked for.
	wantTold(t, w, "t.com", 1, tellOf{impl.FoundData, []string{"z.com 60 1 4.4.4.4"}, []string{linkOf("t.com", "u.s.com"), linkOf("u.s.com", "z.com")}, "com", 6})
	// A TypeCname record that is asked for is what is told, and leads no further.
	wantTold(t, w, "l.com", 5, tellOf{impl.FoundData, []string{linkOf("l.com", "x.a.com")}, nil, "com", 2})
	wantTold(t, w, "up", 5, tellOf{impl.FoundData, []string{linkOf("up", "l.com")}, nil, "", 1})
	wantTold(t, w, "back.com", 5, tellOf{impl.FoundData, []string{linkOf("back.com", "end")}, nil, "com", 2})
}

// What lies in a zone that is not reached is not told, though it would be nearer.
func TestOnlyWhatIsReachedIsTold(t *testing.T) {
	com := zoneWith(t, "com", "x.com 60 1 2.2.2.2", linkOf("l.com", "x.com"))
	apart := wantWorldGood(t, zoneWith(t, "", "x.com 60 1 1.1.1.1", linkOf("m", "x.com"), linkOf("n", "l.com")), com)
	wantTold(t, apart, "x.com", 1, tellOf{kind: impl.FoundData, records: []string{"x.com 60 1 1.1.1.1"}, asks: 1})
	wantTold(t, apart, "l.com", 1, tellOf{kind: impl.FoundNoName, asks: 1})
	wantTold(t, apart, "com", 1, tellOf{kind: impl.FoundNone, asks: 1})
	wantTold(t, apart, "m", 1, tellOf{impl.FoundData, []string{"x.com 60 1 1.1.1.1"}, []string{linkOf("m", "x.com")}, "", 2})
	wantTold(t, apart, "n", 1, tellOf{impl.FoundNoName, nil, []string{linkOf("n", "l.com")}, "", 2})
	wantIsDelegated(t, apart, false, "com")
	// With a cut it is, and what the root's zone has below the cut is not.
	led := wantWorldGood(t, zoneWith(t, "", cutTo("com"), "x.com 60 1 1.1.1.1", linkOf("m", "x.com"), linkOf("n", "l.com")), com)
	wantTold(t, led, "x.com", 1, tellOf{kind: impl.FoundData, records: []string{"x.com 60 1 2.2.2.2"}, zone: "com", asks: 2})
	wantTold(t, led, "n", 1, tellOf{impl.FoundData, []string{"x.com 60 1 2.2.2.2"}, []string{linkOf("n", "l.com"), linkOf("l.com", "x.com")}, "com", 5})
	wantIsDelegated(t, led, true, "com")
}

// chainOf leads from c0 on by so many records, all of them below an apex; the last name has an address.
func chainOf(apex string, many int) []string {
	name := func(i int) string { return strings.TrimSuffix(fmt.Sprintf("c%d.%s", i, apex), ".") }
	var texts []string
	for i := range many {
		texts = append(texts, linkOf(name(i), name(i+1)))
	}
	return append(texts, name(many)+" 60 1 1.1.1.1")
}

func TestChainsOfSevenEightAndNineLinks(t *testing.T) {
	for _, many := range []int{0, 1, 2, 7, 8, 9, 10, 15} {
		root := deepWorld(t, 1, chainOf("", many))
		deep := deepWorld(t, 2, nil, chainOf("d1", many))
		for zone, w := range map[string]impl.World{"": root, "d1": deep} {
			texts, each := chainOf(zone, many), 1+len(zone)/2
			want := tellOf{impl.FoundData, texts[many:], texts[:many], zone, each * (many + 1)}
			if many > 8 {
				want = tellOf{impl.FoundCname, texts[8:9], texts[:8], zone, each * 9}
			}
			wantTold(t, w, strings.TrimSuffix("c0."+zone, "."), 1, want)
		}
	}
	// What a chain of 8 leads to may be any kind.
	texts := chainOf("", 8)
	w := deepWorld(t, 1, texts)
	wantTold(t, w, "c0", 16, tellOf{impl.FoundNone, nil, texts[:8], "", 9})
	wantTold(t, w, "c0", 5, tellOf{impl.FoundData, texts[:1], nil, "", 1})
	wantTold(t, w, "c8", 1, tellOf{impl.FoundData, texts[8:], nil, "", 1})
	w = deepWorld(t, 1, texts[:8])
	wantTold(t, w, "c0", 1, tellOf{impl.FoundNoName, nil, texts[:8], "", 9})
	// The links count over all zones, not within each.
	split := wantWorldGood(t, zoneWith(t, "", cutTo("com"), linkOf("a", "a.com"), linkOf("b", "b.com"), linkOf("c", "c.com"), linkOf("d", "d.com"), linkOf("e", "e.com"), "f 60 1 1.1.1.1"),
		zoneWith(t, "com", linkOf("a.com", "b"), linkOf("b.com", "c"), linkOf("c.com", "d"), linkOf("d.com", "e"), linkOf("e.com", "f")))
	all := []string{linkOf("a", "a.com"), linkOf("a.com", "b"), linkOf("b", "b.com"), linkOf("b.com", "c"), linkOf("c", "c.com"), linkOf("c.com", "d"), linkOf("d", "d.com"), linkOf("d.com", "e"), linkOf("e", "e.com"), linkOf("e.com", "f")}
	wantTold(t, split, "a", 1, tellOf{impl.FoundCname, all[8:9], all[:8], "", 13})
	wantTold(t, split, "a.com", 1, tellOf{impl.FoundCname, all[9:10], all[1:9], "com", 14})
	wantTold(t, split, "b", 1, tellOf{impl.FoundData, []string{"f 60 1 1.1.1.1"}, all[2:], "", 13})
}

func TestChainsThatGoRound(t *testing.T) {
	self := linkOf("c", "c")
	w := deepWorld(t, 1, []string{self})
	wantTold(t, w, "c", 1, tellOf{impl.FoundCname, []string{self}, slices.Repeat([]string{self}, 8), "", 9})
	two := []string{linkOf("a", "b"), linkOf("b", "a")}
	w = deepWorld(t, 1, two)
	wantTold(t, w, "a", 1, tellOf{impl.FoundCname, two[:1], slices.Repeat(two, 4), "", 9})
	wantTold(t, w, "b", 1, tellOf{impl.FoundCname, two[1:], slices.Repeat([]string{two[1], two[0]}, 4), "", 9})
	// Between two zones: five times by one ask and four times by two, or the other way round.
	far := []string{linkOf("a", "b.d1"), linkOf("b.d1", "a")}
	w = deepWorld(t, 2, far[:1], far[1:])
	wantTold(t, w, "a", 1, tellOf{impl.FoundCname, far[:1], slices.Repeat(far, 4), "", 13})
	wantTold(t, w, "b.d1", 1, tellOf{impl.FoundCname, far[1:], slices.Repeat([]string{far[1], far[0]}, 4), "d1", 14})
	wantTold(t, w, "a", 5, tellOf{impl.FoundData, far[:1], nil, "", 1})
	// In the second zone nine asks of two each do, in the third one nine of three are too many.
	w = deepWorld(t, 2, nil, []string{linkOf("c.d1", "c.d1")})
	wantTold(t, w, "c.d1", 1, tellOf{impl.FoundCname, []string{linkOf("c.d1", "c.d1")}, slices.Repeat([]string{linkOf("c.d1", "c.d1")}, 8), "d1", 18})
	w = deepWorld(t, 3, nil, nil, []string{linkOf("c.d2.d1", "c.d2.d1")})
	wantNotTold(t, w, "c.d2.d1", 1)
	// By a star each name is told of anew.
	star := deepWorld(t, 1, []string{linkOf("*.s", "x.s")})
	wantTold(t, star, "q.s", 1, tellOf{impl.FoundCname, []string{linkOf("x.s", "x.s")}, append([]string{linkOf("q.s", "x.s")}, slices.Repeat([]string{linkOf("x.s", "x.s")}, 7)...), "", 9})
}

// Where asks come to 24 exactly all is told, with one more nothing is, whichever the last ask would tell.
func TestAsksUpToTheLastOne(t *testing.T) {
	apex := func(depth int) string {
		return []string{"", "d1", "d2.d1", "d3.d2.d1", "d4.d3.d2.d1", "d5.d4.d3.d2.d1"}[depth-1]
	}
	at := func(i, depth int) string { return strings.TrimSuffix(fmt.Sprintf("n%d.%s", i, apex(depth)), ".") }
	for _, depths := range [][]int{
		{3, 3, 3, 3, 3, 3, 3, 3}, {6, 6, 6, 6}, {4, 4, 4, 4, 4, 4}, {1, 1, 1, 1, 5, 5, 5, 5}, {3, 3, 3, 3, 3, 3, 3, 2, 1}, {1, 2, 3, 4, 5, 6, 1, 1, 1}, {6, 5, 4, 3, 2, 1, 1, 1, 1}, {2, 2, 2, 3, 3, 3, 3, 3, 3}, {6, 6, 6, 5, 1},
		{3, 3, 3, 3, 3, 3, 3, 3, 1}, {6, 6, 6, 6, 1}, {4, 4, 4, 4, 4, 5}, {3, 3, 3, 3, 3, 3, 3, 2, 2}, {1, 2, 3, 4, 5, 6, 2, 1, 1}, {2, 2, 3, 3, 3, 3, 3, 3, 3}, {6, 6, 6, 5, 2}, {6, 6, 6, 6, 6}, {6, 6, 6, 6, 6, 6, 6, 6, 6}, {1}, {6}, {6, 1}, {5, 6, 6, 6},
	} {
		lists := make([][]string, 6)
		var chain []string
		asks := 0
		for i, depth := range depths {
			asks += depth
			if i+1 < len(depths) {
				chain = append(chain, linkOf(at(i, depth), at(i+1, depths[i+1])))
				lists[depth-1] = append(lists[depth-1], chain[i])
			}
		}
		last := depths[len(depths)-1]
		end := at(len(depths)-1, last)
		lists[last-1] = append(lists[last-1], end+" 60 1 1.1.1.1")
		w := deepWorld(t, 6, lists...)
		first := at(0, depths[0])
		if asks > 24 {
			wantNotTold(t, w, first, 1)
			wantNotTold(t, w, first, 16)
			continue
		}
		wantTold(t, w, first, 1, tellOf{impl.FoundData, []string{end + " 60 1 1.1.1.1"}, chain, apex(last), asks})
		wantTold(t, w, first, 16, tellOf{impl.FoundNone, nil, chain, apex(last), asks})
	}
}

// The 24th ask may tell a cut: to a zone that is there it is one too many, to none it is what is told. It may tell a ninth link, too.
func TestTheLastAsk(t *testing.T) {
	long := func(last string) []string {
		return []string{linkOf("n0.d2.d1", "n1.d2.d1"), linkOf("n1.d2.d1", "n2.d2.d1"), linkOf("n2.d2.d1", "n3.d2.d1"), linkOf("n3.d2.d1", "n4.d2.d1"), linkOf("n4.d2.d1", "n5.d2.d1"), linkOf("n5.d2.d1", "n6.d2.d1"), linkOf("n6.d2.d1", last)}
	}
	chain := long("q.d3.d2.d1")
	wantNotTold(t, deepWorld(t, 4, nil, nil, chain), "n0.d2.d1", 1)
	wantTold(t, deepWorld(t, 3, nil, nil, chain), "n0.d2.d1", 1, tellOf{impl.FoundCut, []string{cutTo("d3.d2.d1")}, chain, "d2.d1", 24})
	// An eighth link at the 24th ask would lead on, and does not; a ninth one is told.
	chain = long("n7.d2.d1")
	wantNotTold(t, deepWorld(t, 3, []string{"end 60 1 1.1.1.1"}, nil, append(chain, linkOf("n7.d2.d1", "end"))), "n0.d2.d1", 1)
	depths := []string{"d1", "d1", "d1", "d2.d1", "d2.d1", "d2.d1", "d2.d1", "d2.d1", "d2.d1", ""}
	lists := make([][]string, 3)
	var all []string
	for i := range 9 {
		all = append(all, linkOf(fmt.Sprintf("m%d.%s", i, depths[i]), strings.TrimSuffix(fmt.Sprintf("m%d.%s", i+1, depths[i+1]), ".")))
		lists[1+len(depths[i])/4] = append(lists[1+len(depths[i])/4], all[i])
	}
	wantTold(t, deepWorld(t, 3, lists...), "m0.d1", 1, tellOf{impl.FoundCname, all[8:], all[:8], "d2.d1", 24})
}

// Promise 11, by the program's own functions: what is told is what the last zone that is reached tells of the chain's last name, and asks are the zones on the way of each of its names.
func TestWhatIsToldIsWhatTheZoneTellsThatIsReached(t *testing.T) {
	r := rand.New(rand.NewSource(112))
	many := map[bool]int{}
	for range 150 {
		w := randomWorld(r)
		for range 20 {
			name, kind := randomWorldName(r), []int{1, 1, 1, 16, 2, 5, 15}[r.Intn(7)]
			told, ok := impl.Resolve(w, name, kind)
			many[ok]++
			if !ok {
				continue
			}
			names := []string{name}
			for _, link := range told.Chain {
				if link.Name != names[len(names)-1] || link.Type != impl.TypeCname {
					t.Errorf("the chain of %q has %s", name, shown(told.Chain))
				}
				target, _ := impl.TargetOf(link)
				names = append(names, target)
			}
			asks := 0
			var zone string
			for i, each := range names {
				reached, good := impl.ReachedBy(w, each)
				if !good {
					t.Fatalf("ReachedBy(%q) is false", each)
				}
				asks += len(reached)
				zone = reached[len(reached)-1]
				if found, _ := impl.AskFrom(w, zone, each, kind); i < len(told.Chain) && (found.Kind != impl.FoundCname || !slices.Equal(found.Records, told.Chain[i:i+1])) {
					t.Errorf("%q tells %s of %q, the chain is %s", zone, shown(found), each, shown(told.Chain))
				}
			}
			found, _ := impl.AskFrom(w, zone, names[len(names)-1], kind)
			if told.Zone != zone || told.Asks != asks || told.Kind != found.Kind || !slices.Equal(told.Records, found.Records) {
				t.Errorf("Resolve(%q, %d) = %s; the zone %q tells %s by %d asks", name, kind, shown(told), zone, shown(found), asks)
			}
		}
	}
	if many[true] < 2000 || many[false] < 2 {
		t.Error("the answers are all of one kind", many)
	}
}
