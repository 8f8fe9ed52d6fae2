package tests

import (
	"fmt"
	"math"
	"math/rand"
	"slices"
	"strings"
	"testing"

	"loop.example/g00300/impl"
)

func diffOf(from, to int, dels, adds []impl.Record) impl.Diff {
	return impl.Diff{From: from, To: to, Dels: dels, Adds: adds}
}

// nearestCounter is a counter for a zone, whatever number is given.
func nearestCounter(n int) int {
	return min(max(n, 0), mostCounter)
}

// list writes out the records of a diff.
func list(l ...impl.Record) []impl.Record {
	return inOrder(l...)
}

// addressesOf are so many records that rise, of unlike names.
func addressesOf(many int) []impl.Record {
	var l []impl.Record
	for i := range many {
		l = append(l, addressOf(fmt.Sprintf("n%03d.ex.com", i), i%200))
	}
	return l
}

// stepsOf is a journal with so many diffs, each without records, ten counters apart.
func stepsOf(first, many int) impl.Journal {
	j := impl.Journal{Apex: "ex.com", First: first}
	for i := range many {
		j.Diffs = append(j.Diffs, diffOf(first+10*i, first+10*i+10, nil, nil))
	}
	return j
}

func wantDiffIs(t *testing.T, a, b impl.Zone, dels, adds []impl.Record) {
	t.Helper()
	want := diffOf(a.Counter, b.Counter, dels, adds)
	if got, ok := impl.DiffOf(a, b); !alikeDiff(got, want) || !ok {
		t.Errorf("DiffOf(%s, %s) = %s, %v; want %s", shown(a), shown(b), shown(got), ok, shown(want))
	}
	wantPutTo(t, a, want, b)
}

func wantNoDiff(t *testing.T, a, b impl.Zone) {
	t.Helper()
	if got, ok := impl.DiffOf(a, b); !alikeDiff(got, impl.Diff{}) || ok {
		t.Errorf("DiffOf(%s, %s) = %s, %v; want the zero answer", shown(a), shown(b), shown(got), ok)
	}
}

func wantDiffGood(t *testing.T, d impl.Diff) {
	t.Helper()
	if !impl.GoodDiff(d) {
		t.Errorf("GoodDiff(%s) = false", shown(d))
	}
	back := diffOf(d.To, d.From, d.Adds, d.Dels)
	if got, ok := impl.BackDiff(d); !alikeDiff(got, back) || !ok {
		t.Errorf("BackDiff(%s) = %s, %v", shown(d), shown(got), ok)
	}
	if got, ok := impl.BackDiff(back); !alikeDiff(got, d) || !ok {
		t.Errorf("back twice %s is %s, %v", shown(d), shown(got), ok)
	}
}

// wantDiffBad asks of all functions that take a diff; the zone and the others would do.
func wantDiffBad(t *testing.T, d impl.Diff) {
	t.Helper()
	if impl.GoodDiff(d) {
		t.Errorf("GoodDiff(%s) = true", shown(d))
	}
	if got, ok := impl.BackDiff(d); !alikeDiff(got, impl.Diff{}) || ok {
		t.Errorf("BackDiff(%s) = %s, %v; want the zero answer", shown(d), shown(got), ok)
	}
	for _, n := range []int{0, 1, 2, 7} {
		wantNotJoined(t, diffOf(n, d.From, nil, nil), d)
		wantNotJoined(t, d, diffOf(d.To, n, nil, nil))
	}
	wantNotPutTo(t, zoneOf("ex.com", nearestCounter(d.From), addressOf("a.ex.com", 1)), d)
	wantNotPutBehind(t, impl.Journal{Apex: "ex.com", First: d.From}, d)
	wantNoJournal(t, impl.Journal{Apex: "ex.com", First: d.From, Diffs: []impl.Diff{d}}, d.From)
}

func wantPutTo(t *testing.T, z impl.Zone, d impl.Diff, want impl.Zone) {
	t.Helper()
	if got, ok := impl.ApplyDiff(z, d); !alikeZones(got, want) || !ok {
		t.Errorf("ApplyDiff(%s, %s) = %s, %v; want %s", shown(z), shown(d), shown(got), ok, shown(want))
	}
}

func wantNotPutTo(t *testing.T, z impl.Zone, d impl.Diff) {
	t.Helper()
	if got, ok := impl.ApplyDiff(z, d); !alikeZones(got, impl.Zone{}) || ok {
		t.Errorf("ApplyDiff(%s, %s) = %s, %v; want the zero answer", shown(z), shown(d), shown(got), ok)
	}
}

func wantJoinedTo(t *testing.T, a, b impl.Diff, dels, adds []impl.Record) {
	t.Helper()
	want := diffOf(a.From, b.To, dels, adds)
	if got, ok := impl.JoinDiffs(a, b); !alikeDiff(got, want) || !ok {
		t.Errorf("JoinDiffs(%s, %s) = %s, %v; want %s", shown(a), shown(b), shown(got), ok, shown(want))
	}
}

func wantNotJoined(t *testing.T, a, b impl.Diff) {
	t.Helper()
	if got, ok := impl.JoinDiffs(a, b); !alikeDiff(got, impl.Diff{}) || ok {
		t.Errorf("JoinDiffs(%s, %s) = %s, %v; want the zero answer", shown(a), shown(b), shown(got), ok)
	}
}

func wantJournalGood(t *testing.T, j impl.Journal) {
	t.Helper()
	if !impl.GoodJournal(j) {
		t.Errorf("GoodJournal(%s) = false", shown(j))
	}
}

// wantNoJournal asks of all functions that take a journal, at counters that it may know.
func wantNoJournal(t *testing.T, j impl.Journal, counters ...int) {
	t.Helper()
	if impl.GoodJournal(j) {
		t.Errorf("GoodJournal(%s) = true", shown(j))
	}
	for _, n := range append(counters, wantStops(j)...) {
		wantUnknown(t, j, n)
		wantNotPutBehind(t, j, diffOf(n, n+1, nil, nil))
		wantNotCaughtUp(t, zoneOf(j.Apex, nearestCounter(n)), j)
	}
}

func wantPutInto(t *testing.T, j impl.Journal, d impl.Diff, want impl.Journal) impl.Journal {
	t.Helper()
	got, ok := impl.PutDiff(j, d)
	if !alikeJournals(got, want) || !ok {
		t.Errorf("PutDiff(%s, %s) = %s, %v; want %s", shown(j), shown(d), shown(got), ok, shown(want))
	}
	wantJournalGood(t, got)
	return want
}

func wantNotPutBehind(t *testing.T, j impl.Journal, d impl.Diff) {
	t.Helper()
	if got, ok := impl.PutDiff(j, d); !alikeJournals(got, impl.Journal{}) || ok {
		t.Errorf("PutDiff(%s, %s) = %s, %v; want the zero answer", shown(j), shown(d), shown(got), ok)
	}
}

func wantKnown(t *testing.T, j impl.Journal, counter int, l []impl.Diff) {
	t.Helper()
	if got, ok := impl.DiffsFrom(j, counter); !alikeDiffs(got, l) || !ok {
		t.Errorf("DiffsFrom(%s, %d) = %s, %v; want %s", shown(j), counter, shown(got), ok, shown(l))
	}
}

func wantUnknown(t *testing.T, j impl.Journal, counters ...int) {
	t.Helper()
	for _, n := range counters {
		if got, ok := impl.DiffsFrom(j, n); len(got) != 0 || ok {
			t.Errorf("DiffsFrom(%s, %d) = %s, %v; want the zero answer", shown(j), n, shown(got), ok)
		}
	}
}

func wantCaughtUp(t *testing.T, z impl.Zone, j impl.Journal, want impl.Zone, many int) {
	t.Helper()
	if got, n, ok := impl.CatchUp(z, j); !alikeZones(got, want) || n != many || !ok {
		t.Errorf("CatchUp(%s, %s) = %s, %d, %v; want %s, %d", shown(z), shown(j), shown(got), n, ok, shown(want), many)
	}
}

func wantNotCaughtUp(t *testing.T, z impl.Zone, j impl.Journal) {
	t.Helper()
	if got, n, ok := impl.CatchUp(z, j); !alikeZones(got, impl.Zone{}) || n != 0 || ok {
		t.Errorf("CatchUp(%s, %s) = %s, %d, %v; want the zero answer", shown(z), shown(j), shown(got), n, ok)
	}
}

func TestDiffConstants(t *testing.T) {
	if impl.MaxJournal != 12 {
		t.Error(impl.MaxJournal)
	}
}

func TestCountersOfDiffs(t *testing.T) {
	// Diffs lead up and down, from one edge to the other.
	for _, pair := range [][2]int{{0, 1}, {1, 0}, {0, mostCounter}, {mostCounter, 0}, {mostCounter - 1, mostCounter}, {mostCounter, mostCounter - 1}, {1, allSerials + 1}, {allSerials, 0}, {7, 8}, {8, 7}, {7, 1 << 40}} {
		wantDiffGood(t, diffOf(pair[0], pair[1], nil, nil))
		wantDiffGood(t, diffOf(pair[0], pair[1], list(addressOf("a.ex.com", 1)), list(addressOf("b.ex.com", 1))))
	}
	for _, n := range append(counterEdges(), badCounters()...) {
		wantDiffBad(t, diffOf(n, n, nil, nil))
		wantDiffBad(t, diffOf(n, n, nil, list(addressOf("a.ex.com", 2))))
	}
	for _, n := range counterEdges() {
		if n != 5 {
			wantDiffGood(t, diffOf(n, 5, nil, nil))
			wantDiffGood(t, diffOf(5, n, nil, nil))
		}
	}
	for _, n := range badCounters() {
		for _, other := range []int{0, 1, mostCounter, n + 1, n - 1} {
			wantDiffBad(t, diffOf(n, other, nil, nil))
			wantDiffBad(t, diffOf(other, n, nil, nil))
			wantDiffBad(t, diffOf(n, other, nil, list(addressOf("b.ex.com", 1))))
		}
	}
}

func TestListsOfDiffs(t *testing.T) {
	a, b, c := addressOf("a.ex.com", 1), addressOf("b.ex.com", 1), addressOf("c.ex.com", 1)
	for _, l := range [][]impl.Record{
		nil, {}, {a}, {a, b}, {a, b, c}, {addressOf("a.ex.com", 1), addressOf("a.ex.com", 2)}, {withTtl(a, 0), a, withTtl(a, 100000)},
		// A diff alone is of no apex, and keeps no rules of zones.
		{soaOf("ex.com", 1), soaOf("ex.com", 2), a}, {soaOf("", 0)}, {a, hostOf("a.ex.com", 5, "x"), soaOf("a.ex.com", 7)}, {addressOf("com", 1), addressOf("net", 1)}, {addressOf("*", 1)},
		list(oneOfEachType("a.ex.com")...), addressesOf(39), addressesOf(40),
	} {
		for _, n := range []int{0, 7, mostCounter - 1} {
			wantDiffGood(t, diffOf(n, n+1, l, nil))
			wantDiffGood(t, diffOf(n, n+1, nil, l))
			wantDiffGood(t, diffOf(n, n+1, l, list(addressOf("other", 1), addressOf("other", 2))))
		}
	}
	wantDiffGood(t, diffOf(1, 2, addressesOf(80)[:40], addressesOf(80)[40:]))
	for _, l := range [][]impl.Record{
		{b, a}, {a, c, b}, {c, b, a}, {b, c, a}, {a, a}, {a, b, b}, {a, b, a}, {a, a, b}, {addressOf("b.a.ex.com", 1), a}, {withTtl(a, 61), a}, {addressOf("a.ex.com", 10), addressOf("a.ex.com", 9)},
		{hostOf("a.ex.com", 5, "x"), a}, addressesOf(41), addressesOf(42), addressesOf(200), append(addressesOf(40), addressesOf(1)...), make([]impl.Record, 1), make([]impl.Record, 40), make([]impl.Record, 1<<16),
	} {
		wantDiffBad(t, diffOf(7, 8, l, nil))
		wantDiffBad(t, diffOf(7, 8, nil, l))
		wantDiffBad(t, diffOf(8, 7, list(addressOf("other", 1)), l))
	}
}

func TestRecordsOfDiffsThatAreNotGood(t *testing.T) {
	a, z := addressOf("a.ex.com", 1), addressOf("z.ex.com", 1)
	for _, bad := range []impl.Record{
		{}, {Name: "m.ex.com"}, addressOf("m..ex.com", 1), addressOf("M.ex.com", 1), withTtl(addressOf("m.ex.com", 1), -1), withTtl(addressOf("m.ex.com", 1), 100001), withTtl(addressOf("m.ex.com", 1), math.MinInt), withTtl(addressOf("m.ex.com", 1), math.MaxInt),
		hostOf("m.ex.com", 0, "x"), hostOf("m.ex.com", 3, "x"), hostOf("m.ex.com", math.MaxInt, "x"), hostOf("m.ex.com", math.MinInt, "x"), hostOf("m.ex.com", 1, "1.2.3"), hostOf("m.ex.com", 5, "*.ex.com"), hostOf("m.ex.com", 6, "4294967296"), hostOf("m.ex.com", 6, "01"),
		hostOf("m.ex.com", 15, "mx"), noteOf("m.ex.com", strings.Repeat("x", 31)), noteOf("m.ex.com", "\n"), noteOf(strings.Repeat("a.", 1<<12), ""),
	} {
		for _, l := range [][]impl.Record{{bad}, {a, bad}, {bad, z}, {a, bad, z}} {
			wantDiffBad(t, diffOf(7, 8, l, nil))
			wantDiffBad(t, diffOf(7, 8, nil, l))
			wantDiffBad(t, diffOf(7, 8, l, l))
		}
	}
}

func TestNoRecordIsInBothListsOfADiff(t *testing.T) {
	l := addressesOf(40)
	for _, at := range []int{0, 1, 20, 38, 39} {
		one := list(l[at])
		wantDiffBad(t, diffOf(7, 8, one, one))
		wantDiffBad(t, diffOf(7, 8, l, one))
		wantDiffBad(t, diffOf(7, 8, one, l))
		wantDiffBad(t, diffOf(7, 8, l[:at+1], l[at:]))
		wantDiffGood(t, diffOf(7, 8, l[:at], l[at:]))
		// With another Ttl, another Data, another Type or another Name it is another record.
		for _, other := range []impl.Record{withTtl(l[at], 61), addressOf(l[at].Name, 250), noteOf(l[at].Name, l[at].Data), addressOf("x."+l[at].Name, at)} {
			wantDiffGood(t, diffOf(7, 8, l, list(other)))
			wantDiffGood(t, diffOf(7, 8, list(other), l))
			wantDiffGood(t, diffOf(7, 8, list(other), one))
		}
	}
	wantDiffBad(t, diffOf(7, 8, l, l))
	wantDiffBad(t, diffOf(7, 8, list(soaOf("ex.com", 7)), list(soaOf("ex.com", 7))))
}

func TestDiffsOfVersions(t *testing.T) {
	a1, a2, b1 := addressOf("a.ex.com", 1), addressOf("a.ex.com", 2), addressOf("b.ex.com", 1)
	soa := func(n int) impl.Record { return soaOf("ex.com", n) }
	wantDiffIs(t, zoneOf("ex.com", 1, a1), zoneOf("ex.com", 2, b1), list(soa(1), a1), list(soa(2), b1))
	wantDiffIs(t, zoneOf("ex.com", 2, b1), zoneOf("ex.com", 1, a1), list(soa(2), b1), list(soa(1), a1))
	// Nothing but the serial differs.
	wantDiffIs(t, zoneOf("ex.com", 1), zoneOf("ex.com", 2), list(soa(1)), list(soa(2)))
	wantDiffIs(t, zoneOf("ex.com", 9, a1, a2, b1), zoneOf("ex.com", 3, a1, a2, b1), list(soa(9)), list(soa(3)))
	// Some come alone, some go alone.
	wantDiffIs(t, zoneOf("ex.com", 1), zoneOf("ex.com", 5, a1, a2, b1), list(soa(1)), list(soa(5), a1, a2, b1))
	wantDiffIs(t, zoneOf("ex.com", 1, a1, a2, b1), zoneOf("ex.com", 5), list(soa(1), a1, a2, b1), list(soa(5)))
	wantDiffIs(t, zoneOf("ex.com", 1, a1, b1), zoneOf("ex.com", 5, a1, a2, b1), list(soa(1)), list(soa(5), a2))
	// From one edge to the other, and of the root.
	wantDiffIs(t, zoneOf("ex.com", 0, a1), zoneOf("ex.com", mostCounter, a1, a2), nil, list(a2))
	wantDiffIs(t, zoneOf("ex.com", mostCounter, a1), zoneOf("ex.com", mostCounter-1, a1), list(soa(0)), list(soa(allSerials-1)))
	wantDiffIs(t, zoneOf("", 1, addressOf("com", 1)), zoneOf("", 2, addressOf("*", 1)), list(soaOf("", 1), addressOf("com", 1)), list(soaOf("", 2), addressOf("*", 1)))
}

// All serials further on the serial is the same, so that there need be no record that differs.
func TestDiffsWithoutRecords(t *testing.T) {
	for _, n := range []int{0, 1, 7, allSerials - 1, mostCounter - 2*allSerials} {
		for _, more := range []int{allSerials, 2 * allSerials} {
			a, b := zoneOf("ex.com", n, addressOf("a.ex.com", 1)), zoneOf("ex.com", n+more, addressOf("a.ex.com", 1))
			wantDiffIs(t, a, b, nil, nil)
			wantDiffIs(t, b, a, nil, nil)
		}
	}
}

func TestDiffsOfATtlAlone(t *testing.T) {
	a1, a2 := addressOf("a.ex.com", 1), addressOf("a.ex.com", 2)
	one, two := zoneOf("ex.com", 1, a1, a2), zoneOf("ex.com", allSerials+1, withTtl(a1, 61), withTtl(a2, 61))
	wantDiffIs(t, one, two, list(a1, a2), list(withTtl(a1, 61), withTtl(a2, 61)))
	wantDiffIs(t, two, one, list(withTtl(a1, 61), withTtl(a2, 61)), list(a1, a2))
	other := zoneOf("ex.com", 1)
	other.Records[0].Ttl = 61
	wantDiffIs(t, atCounter(other, 2), zoneOf("ex.com", 3), list(withTtl(soaOf("ex.com", 2), 61)), list(soaOf("ex.com", 3)))
	wantDiffIs(t, other, zoneOf("ex.com", allSerials+1), list(withTtl(soaOf("ex.com", 1), 61)), list(soaOf("ex.com", 1)))
}

func TestDiffsOfAllRecords(t *testing.T) {
	full := fullZone(40, 3)
	other := impl.Zone{Apex: "ex.com", Counter: 4, Records: slices.Clone(full.Records)}
	for i := range other.Records {
		other.Records[i].Ttl = 61
	}
	other = atCounter(other, 4)
	wantDiffIs(t, full, other, full.Records, other.Records)
	wantDiffIs(t, other, full, other.Records, full.Records)
	var l []impl.Record
	for i := range 39 {
		l = append(l, noteOf(fmt.Sprintf("m%02d.ex.com", i), "x"))
	}
	wantDiffIs(t, full, zoneOf("ex.com", 4, l...), full.Records, list(append(l, soaOf("ex.com", 4))...))
	wantDiffIs(t, full, zoneOf("ex.com", 4), full.Records, list(soaOf("ex.com", 4)))
}

func TestZonesThatHaveNoDiff(t *testing.T) {
	a := addressOf("a.ex.com", 1)
	good := zoneOf("ex.com", 5, a)
	// Alike counters, whatever differs.
	wantNoDiff(t, good, good)
	wantNoDiff(t, good, zoneOf("ex.com", 5))
	wantNoDiff(t, zoneOf("ex.com", 0), zoneOf("ex.com", 0, a))
	wantNoDiff(t, zoneOf("ex.com", mostCounter), zoneOf("ex.com", mostCounter, a))
	// Unlike apexes.
	for _, apex := range []string{"", "com", "ex.net", "a.ex.com", "x.com"} {
		wantNoDiff(t, good, zoneOf(apex, 6))
		wantNoDiff(t, zoneOf(apex, 6), good)
	}
	// Zones that are not good, on either side, or both.
	bad := []impl.Zone{{}, {Apex: "ex.com"}, {Apex: "ex.com", Counter: 6}, {Apex: "ex.com", Counter: 6, Records: good.Records}, fullZone(41, 6), zoneOf("ex.com", 6, a, hostOf("a.ex.com", 5, "x")), zoneOf("ex.com", 6, a, withTtl(addressOf("a.ex.com", 2), 61)), zoneOf("ex.com", 6, addressOf("ex.net", 1)), zoneOf("ex.com", 6, a, a), {Apex: "ex.com", Counter: 6, Records: make([]impl.Record, 500)}}
	for _, n := range badCounters() {
		bad = append(bad, impl.Zone{Apex: "ex.com", Counter: n, Records: good.Records}, impl.Zone{Apex: "ex.com", Counter: n, Records: zoneOf("ex.com", nearestCounter(n)).Records})
	}
	for _, z := range bad {
		wantNoDiff(t, good, z)
		wantNoDiff(t, z, good)
		wantNoDiff(t, z, z)
	}
	// Both are of one apex that is none.
	for _, apex := range []string{"*", "*.com", "Ex.com", ".", "a..b"} {
		wantNoDiff(t, zoneOf(apex, 1), zoneOf(apex, 2))
	}
}

func TestDiffsThatArePut(t *testing.T) {
	a1, a2, b1, c1 := addressOf("a.ex.com", 1), addressOf("a.ex.com", 2), addressOf("b.ex.com", 1), addressOf("c.ex.com", 1)
	z := zoneOf("ex.com", 5, a1, b1)
	soa, later := soaOf("ex.com", 5), soaOf("ex.com", 9)
	wantPutTo(t, z, diffOf(5, 9, list(soa), list(later)), zoneOf("ex.com", 9, a1, b1))
	wantPutTo(t, z, diffOf(5, 9, list(soa, a1), list(later, c1)), zoneOf("ex.com", 9, b1, c1))
	wantPutTo(t, z, diffOf(5, 9, list(soa, a1, b1), list(later)), zoneOf("ex.com", 9))
	// What comes stands ahead of, between and behind what stays.
	wantPutTo(t, z, diffOf(5, 9, list(soa), list(later, addressOf("ex.com", 1), addressOf("*.ex.com", 1), a2, addressOf("x.b.ex.com", 1), c1)), zoneOf("ex.com", 9, a1, b1, addressOf("ex.com", 1), addressOf("*.ex.com", 1), a2, addressOf("x.b.ex.com", 1), c1))
	// Back to an elder version, and to the edges.
	wantPutTo(t, z, diffOf(5, 0, list(soa), list(soaOf("ex.com", 0), a2)), zoneOf("ex.com", 0, a1, a2, b1))
	wantPutTo(t, z, diffOf(5, mostCounter, list(soa), list(soaOf("ex.com", mostCounter))), zoneOf("ex.com", mostCounter, a1, b1))
	wantPutTo(t, zoneOf("ex.com", mostCounter), diffOf(mostCounter, 0, nil, list(a1)), zoneOf("ex.com", 0, a1))
	// The serial stays where it is the same, all serials on.
	wantPutTo(t, z, diffOf(5, allSerials+5, nil, nil), zoneOf("ex.com", allSerials+5, a1, b1))
	wantPutTo(t, z, diffOf(5, allSerials+5, list(a1), nil), zoneOf("ex.com", allSerials+5, b1))
	wantPutTo(t, zoneOf("", 1), diffOf(1, 2, list(soaOf("", 1)), list(soaOf("", 2), addressOf("com", 1))), zoneOf("", 2, addressOf("com", 1)))
	// A Ttl alone changes.
	wantPutTo(t, z, diffOf(5, 9, list(soa, a1), list(later, withTtl(a1, 0))), zoneOf("ex.com", 9, withTtl(a1, 0), b1))
}

func TestDiffsOfAnotherCounter(t *testing.T) {
	a := addressOf("a.ex.com", 1)
	z := zoneOf("ex.com", 5, a)
	for _, n := range append(counterEdges(), badCounters()...) {
		if n == 5 {
			continue
		}
		wantNotPutTo(t, z, diffOf(n, 9, list(soaOf("ex.com", 5)), list(soaOf("ex.com", 9))))
		wantNotPutTo(t, z, diffOf(n, 5, nil, nil))
		wantNotPutTo(t, z, diffOf(n, allSerials+5, nil, list(addressOf("b.ex.com", 1))))
	}
	// The serial of the counter is not enough.
	wantNotPutTo(t, zoneOf("ex.com", allSerials+5, a), diffOf(5, 6, list(soaOf("ex.com", 5)), list(soaOf("ex.com", 6))))
}

func TestDiffsThatDoNotFit(t *testing.T) {
	a1, a2, b1 := addressOf("a.ex.com", 1), addressOf("a.ex.com", 2), addressOf("b.ex.com", 1)
	z := zoneOf("ex.com", 5, a1, b1)
	soa, later := soaOf("ex.com", 5), soaOf("ex.com", 9)
	// One of Dels is not there, or with another Ttl.
	for _, gone := range []impl.Record{a2, withTtl(a1, 61), addressOf("ex.com", 1), noteOf("a.ex.com", "x"), addressOf("ex.net", 1), soaOf("ex.com", 4), withTtl(soa, 61)} {
		wantNotPutTo(t, z, diffOf(5, 9, list(soa, gone), list(later)))
		wantNotPutTo(t, z, diffOf(5, 9, list(soa, a1, gone), list(later)))
		wantNotPutTo(t, z, diffOf(5, 9, list(soa, a1, b1, gone), list(later)))
		wantNotPutTo(t, z, diffOf(5, allSerials+5, list(gone), nil))
	}
	// One of Adds is there already.
	for _, come := range []impl.Record{a1, b1} {
		wantNotPutTo(t, z, diffOf(5, 9, list(soa), list(later, come)))
		wantNotPutTo(t, z, diffOf(5, 9, list(soa), list(later, a2, come)))
		wantNotPutTo(t, z, diffOf(5, allSerials+5, nil, list(come)))
	}
	wantNotPutTo(t, z, diffOf(5, allSerials+5, nil, list(soa)))
	wantNotPutTo(t, z, diffOf(5, 9, list(soa, a1), list(later, a1)))
}

func TestDiffsBehindWhichTheZoneIsNotGood(t *testing.T) {
	a1, a2, b1 := addressOf("a.ex.com", 1), addressOf("a.ex.com", 2), addressOf("b.ex.com", 1)
	z := zoneOf("ex.com", 5, a1, b1, hostOf("c.ex.com", 5, "x"), hostOf("d.ex.com", 2, "x"))
	soa, later := soaOf("ex.com", 5), soaOf("ex.com", 9)
	wantPutTo(t, z, diffOf(5, 9, list(soa), list(later)), zoneOf("ex.com", 9, z.Records[1:]...))
	// The serial is not that of To, there is none, or there are two.
	wantNotPutTo(t, z, diffOf(5, 9, nil, nil))
	wantNotPutTo(t, z, diffOf(5, 9, list(a1), list(a2)))
	wantNotPutTo(t, z, diffOf(5, 9, list(soa), list(soaOf("ex.com", 8))))
	wantNotPutTo(t, z, diffOf(5, allSerials+5, list(soa), list(later)))
	wantNotPutTo(t, z, diffOf(5, 9, list(soa), nil))
	wantNotPutTo(t, z, diffOf(5, allSerials+5, list(soa), nil))
	wantNotPutTo(t, z, diffOf(5, 9, nil, list(later)))
	wantNotPutTo(t, z, diffOf(5, allSerials+5, nil, list(later)))
	wantNotPutTo(t, z, diffOf(5, 9, list(soa), list(later, withTtl(later, 61))))
	wantNotPutTo(t, z, diffOf(5, 9, list(soa), list(soaOf("a.ex.com", 9))))
	// A rule is broken.
	for _, come := range []impl.Record{
		addressOf("ex.net", 1), addressOf("", 1), withTtl(a1, 61), withTtl(a2, 61), hostOf("a.ex.com", 5, "x"), addressOf("c.ex.com", 1), hostOf("c.ex.com", 5, "y"), hostOf("ex.com", 5, "x"), noteOf("d.ex.com", ""), hostOf("e.d.ex.com", 2, "x"), noteOf("*.d.ex.com", ""), soaOf("b.ex.com", 9),
	} {
		wantNotPutTo(t, z, diffOf(5, 9, list(soa), list(later, come)))
		wantNotPutTo(t, z, diffOf(5, 9, list(soa, b1), list(later, a2, come)))
		wantNotPutTo(t, z, diffOf(5, allSerials+5, nil, list(come)))
	}
	// What would be in the way goes.
	wantPutTo(t, z, diffOf(5, 9, list(soa, a1), list(later, hostOf("a.ex.com", 5, "x"))), zoneOf("ex.com", 9, append(list(z.Records[2:]...), hostOf("a.ex.com", 5, "x"))...))
	wantPutTo(t, zoneOf("ex.com", 5, hostOf("d.ex.com", 2, "x")), diffOf(5, 9, list(soa, hostOf("d.ex.com", 2, "x")), list(later, noteOf("e.d.ex.com", ""))), zoneOf("ex.com", 9, noteOf("e.d.ex.com", "")))
}

func TestDiffsOfFullZones(t *testing.T) {
	full := fullZone(40, 3)
	soa, later := soaOf("ex.com", 3), soaOf("ex.com", 4)
	more := addressOf("z.ex.com", 1)
	wantPutTo(t, full, diffOf(3, 4, list(soa), list(later)), fullZone(40, 4))
	wantPutTo(t, full, diffOf(3, 4, list(soa, full.Records[5]), list(later, more)), zoneOf("ex.com", 4, list(append(slices.Delete(slices.Clone(full.Records[1:]), 4, 5), more)...)...))
	wantPutTo(t, fullZone(39, 3), diffOf(3, 4, list(soa), list(later, more)), zoneOf("ex.com", 4, append(slices.Clone(fullZone(39, 3).Records[1:]), more)...))
	// More than MaxZone behind it.
	wantNotPutTo(t, full, diffOf(3, 4, list(soa), list(later, more)))
	wantNotPutTo(t, full, diffOf(3, allSerials+3, nil, list(more)))
	wantNotPutTo(t, fullZone(39, 3), diffOf(3, 4, list(soa), list(later, more, addressOf("z.ex.com", 2))))
	wantNotPutTo(t, full, diffOf(3, allSerials+3, nil, addressesOf(40)))
	wantNotPutTo(t, full, diffOf(3, 4, list(soa, full.Records[1]), list(later, more, addressOf("z.ex.com", 2))))
}

func TestDiffsArePutToGoodZonesAlone(t *testing.T) {
	d := diffOf(5, 9, list(soaOf("ex.com", 5)), list(soaOf("ex.com", 9)))
	wantPutTo(t, zoneOf("ex.com", 5), d, zoneOf("ex.com", 9))
	a := addressOf("a.ex.com", 1)
	for _, z := range []impl.Zone{
		{}, {Apex: "ex.com", Counter: 5}, {Apex: "com", Counter: 5, Records: list(soaOf("ex.com", 5))}, {Apex: "*.com", Counter: 5, Records: list(soaOf("*.com", 5))}, zoneOf("ex.com", 5, a, a), zoneOf("ex.com", 5, a, hostOf("a.ex.com", 5, "x")), fullZone(41, 5),
		{Apex: "ex.com", Counter: 5, Records: []impl.Record{a, soaOf("ex.com", 5)}}, {Apex: "ex.com", Counter: 5, Records: make([]impl.Record, 1000)}, {Apex: strings.Repeat("a.", 1<<16), Counter: 5},
	} {
		wantNotPutTo(t, z, d)
		wantNotPutTo(t, z, diffOf(5, allSerials+5, nil, nil))
		wantNotPutTo(t, z, diffOf(0, allSerials, nil, nil))
	}
	// What is wrong ahead of the diff is not mended by it.
	wantNotPutTo(t, impl.Zone{Apex: "ex.com", Counter: 5, Records: list(soaOf("ex.com", 4))}, diffOf(5, 9, list(soaOf("ex.com", 4)), list(soaOf("ex.com", 9))))
	wantNotPutTo(t, zoneOf("ex.com", 5, addressOf("ex.net", 1)), diffOf(5, 9, list(soaOf("ex.com", 5), addressOf("ex.net", 1)), list(soaOf("ex.com", 9))))
	wantNotPutTo(t, fullZone(41, 5), diffOf(5, 9, list(soaOf("ex.com", 5), fullZone(41, 5).Records[7]), list(soaOf("ex.com", 9))))
	wantNotPutTo(t, impl.Zone{Apex: "ex.com", Counter: 5}, diffOf(5, 9, nil, list(soaOf("ex.com", 9))))
}

// All of these would lead to a good zone, if they were diffs.
func TestDiffsThatAreNotGoodAreNotPut(t *testing.T) {
	a, b, c, e := addressOf("a.ex.com", 1), addressOf("b.ex.com", 1), addressOf("c.ex.com", 1), addressOf("e.ex.com", 1)
	z := zoneOf("ex.com", 5, a, b)
	soa, later := soaOf("ex.com", 5), soaOf("ex.com", 9)
	wantPutTo(t, z, diffOf(5, 9, list(soa, a, b), list(later, c, e)), zoneOf("ex.com", 9, c, e))
	for _, l := range [][]impl.Record{{soa, b, a}, {a, soa, b}, {b, a, soa}, {soa, a, a}, {soa, soa}, {soa, a, b, a}} {
		wantNotPutTo(t, z, diffOf(5, 9, l, list(later, c, e)))
	}
	for _, l := range [][]impl.Record{{later, e, c}, {c, later, e}, {e, c, later}, {later, c, c}, {later, later}, {later, c, e, c}} {
		wantNotPutTo(t, z, diffOf(5, 9, list(soa, a, b), l))
	}
	wantNotPutTo(t, z, diffOf(5, 5, nil, nil))
	wantNotPutTo(t, z, diffOf(5, 5, list(a), list(c)))
	wantNotPutTo(t, z, diffOf(5, 9, list(soa), list(soa, later)))
}

func TestDiffsBack(t *testing.T) {
	a, b, c := addressOf("a.ex.com", 1), addressOf("b.ex.com", 1), addressOf("c.ex.com", 1)
	got, ok := impl.BackDiff(diffOf(3, 8, list(a, b), list(c)))
	if !alikeDiff(got, diffOf(8, 3, list(c), list(a, b))) || !ok {
		t.Error(shown(got), ok)
	}
	got, ok = impl.BackDiff(diffOf(mostCounter, 0, nil, addressesOf(40)))
	if !alikeDiff(got, diffOf(0, mostCounter, addressesOf(40), nil)) || !ok {
		t.Error(shown(got), ok)
	}
	// What goes to a version and back is the version.
	one, two := zoneOf("ex.com", 3, a, b), zoneOf("ex.com", 8, c, withTtl(a, 61))
	d, _ := impl.DiffOf(one, two)
	wantPutTo(t, one, d, two)
	back, _ := impl.BackDiff(d)
	wantPutTo(t, two, back, one)
	wantNotPutTo(t, one, back)
	if again, _ := impl.DiffOf(two, one); !alikeDiff(again, back) {
		t.Error(shown(again), shown(back))
	}
}

func TestDiffsThatAreJoined(t *testing.T) {
	a, b, c, e := addressOf("a.ex.com", 1), addressOf("b.ex.com", 1), addressOf("c.ex.com", 1), addressOf("e.ex.com", 1)
	// What a adds b deletes.
	wantJoinedTo(t, diffOf(1, 2, nil, list(a)), diffOf(2, 3, list(a), nil), nil, nil)
	wantJoinedTo(t, diffOf(1, 2, nil, list(a, b)), diffOf(2, 3, list(a, c), nil), list(c), list(b))
	// What a deletes b adds.
	wantJoinedTo(t, diffOf(1, 2, list(a), nil), diffOf(2, 3, nil, list(a)), nil, nil)
	wantJoinedTo(t, diffOf(1, 2, list(a, b), nil), diffOf(2, 3, nil, list(a, c)), list(b), list(c))
	// Both.
	wantJoinedTo(t, diffOf(1, 2, list(a), list(b)), diffOf(2, 3, list(b), list(a)), nil, nil)
	wantJoinedTo(t, diffOf(1, 2, list(a, c), list(b)), diffOf(2, 3, list(b, e), list(a)), list(c, e), nil)
	wantJoinedTo(t, diffOf(1, 2, list(a), list(b, c)), diffOf(2, 3, list(b), list(a, e)), nil, list(c, e))
	// Neither.
	wantJoinedTo(t, diffOf(1, 2, list(a), list(b)), diffOf(2, 3, list(c), list(e)), list(a, c), list(b, e))
	wantJoinedTo(t, diffOf(1, 2, list(c), list(e)), diffOf(2, 3, list(a), list(b)), list(a, c), list(b, e))
	wantJoinedTo(t, diffOf(1, 2, list(a, e), nil), diffOf(2, 3, list(b, c), nil), list(a, b, c, e), nil)
	wantJoinedTo(t, diffOf(1, 2, nil, list(b, c)), diffOf(2, 3, nil, list(a, e)), nil, list(a, b, c, e))
	wantJoinedTo(t, diffOf(1, 2, nil, nil), diffOf(2, 3, nil, nil), nil, nil)
	wantJoinedTo(t, diffOf(1, 2, nil, nil), diffOf(2, 3, list(a), list(b)), list(a), list(b))
	wantJoinedTo(t, diffOf(1, 2, list(a), list(b)), diffOf(2, 3, nil, nil), list(a), list(b))
	// A Ttl that changes twice.
	wantJoinedTo(t, diffOf(1, 2, list(a), list(withTtl(a, 61))), diffOf(2, 3, list(withTtl(a, 61)), list(withTtl(a, 62))), list(a), list(withTtl(a, 62)))
	wantJoinedTo(t, diffOf(1, 2, list(a), list(withTtl(a, 61))), diffOf(2, 3, list(withTtl(a, 61)), list(a)), nil, nil)
	wantJoinedTo(t, diffOf(1, 2, list(a), nil), diffOf(2, 3, nil, list(withTtl(a, 61))), list(a), list(withTtl(a, 61)))
	// Serials, as they stand in all diffs of zones.
	wantJoinedTo(t, diffOf(1, 2, list(soaOf("ex.com", 1)), list(soaOf("ex.com", 2), a)), diffOf(2, 3, list(soaOf("ex.com", 2)), list(soaOf("ex.com", 3), b)), list(soaOf("ex.com", 1)), list(soaOf("ex.com", 3), a, b))
}

// What both diffs delete, or both add, is one record of the joined one, be all else as it may.
func TestWhatBothDiffsHaveIsJoinedOnce(t *testing.T) {
	a, b, c, e := addressOf("a.ex.com", 1), addressOf("b.ex.com", 1), addressOf("c.ex.com", 1), addressOf("e.ex.com", 1)
	wantJoinedTo(t, diffOf(1, 2, list(a), nil), diffOf(2, 3, list(a), nil), list(a), nil)
	wantJoinedTo(t, diffOf(1, 2, nil, list(a)), diffOf(2, 3, nil, list(a)), nil, list(a))
	wantJoinedTo(t, diffOf(1, 2, list(a), list(b)), diffOf(2, 3, list(a), list(b)), list(a), list(b))
	wantJoinedTo(t, diffOf(1, 2, list(a, b, c), nil), diffOf(2, 3, list(a, b, c), nil), list(a, b, c), nil)
	// Beside others, which stand ahead, between and behind.
	wantJoinedTo(t, diffOf(1, 2, list(a, c), nil), diffOf(2, 3, list(b, c, e), nil), list(a, b, c, e), nil)
	wantJoinedTo(t, diffOf(1, 2, nil, list(b, c, e)), diffOf(2, 3, nil, list(a, b)), nil, list(a, b, c, e))
	// Beside what comes and goes.
	wantJoinedTo(t, diffOf(1, 2, list(a, b), nil), diffOf(2, 3, list(b), list(a)), list(b), nil)
	wantJoinedTo(t, diffOf(1, 2, list(b), list(a)), diffOf(2, 3, nil, list(a, b)), nil, list(a))
	wantJoinedTo(t, diffOf(1, 2, list(a, b), list(c, e)), diffOf(2, 3, list(a, c), list(b, e)), list(a), list(e))
	// Another Ttl makes another record.
	wantJoinedTo(t, diffOf(1, 2, list(a), nil), diffOf(2, 3, list(withTtl(a, 61)), nil), list(a, withTtl(a, 61)), nil)
	wantJoinedTo(t, diffOf(1, 2, nil, list(a, withTtl(a, 61))), diffOf(2, 3, nil, list(withTtl(a, 61), withTtl(a, 62))), nil, list(a, withTtl(a, 61), withTtl(a, 62)))
	// The counters still have to fit.
	wantNotJoined(t, diffOf(1, 2, list(a), nil), diffOf(2, 1, list(a), nil))
	wantNotJoined(t, diffOf(1, 2, nil, list(a)), diffOf(3, 4, nil, list(a)))
	// Nor is a record that stands twice in one of the diffs made one.
	wantNotJoined(t, diffOf(1, 2, []impl.Record{a, a}, nil), diffOf(2, 3, nil, nil))
	wantNotJoined(t, diffOf(1, 2, list(a), nil), diffOf(2, 3, []impl.Record{a, a}, nil))
}

func TestCountersOfJoinedDiffs(t *testing.T) {
	a, b := addressOf("a.ex.com", 1), addressOf("b.ex.com", 1)
	// Up and down, the one longer than the other.
	for _, n := range [][3]int{{1, 2, 3}, {3, 2, 1}, {1, 3, 2}, {2, 3, 1}, {2, 1, 3}, {3, 1, 2}, {0, mostCounter, 1}, {mostCounter, 0, mostCounter - 1}, {0, 1, mostCounter}, {mostCounter - 1, 0, mostCounter}} {
		wantJoinedTo(t, diffOf(n[0], n[1], list(a), nil), diffOf(n[1], n[2], nil, list(b)), list(a), list(b))
		wantJoinedTo(t, diffOf(n[0], n[1], nil, nil), diffOf(n[1], n[2], nil, nil), nil, nil)
	}
	// b's From is not a's To.
	for _, n := range [][4]int{{1, 2, 3, 4}, {1, 2, 1, 3}, {2, 3, 1, 2}, {1, 3, 2, 4}, {0, 1, mostCounter, 2}, {1, allSerials, 2 * allSerials, 7}, {1, 2, allSerials + 2, 3}} {
		wantNotJoined(t, diffOf(n[0], n[1], nil, nil), diffOf(n[2], n[3], nil, nil))
		wantNotJoined(t, diffOf(n[0], n[1], list(a), nil), diffOf(n[2], n[3], nil, list(a)))
	}
	// a's From is b's To.
	for _, n := range [][2]int{{1, 2}, {2, 1}, {0, mostCounter}, {mostCounter, 0}, {7, allSerials}} {
		d := diffOf(n[0], n[1], list(a), list(b))
		back, _ := impl.BackDiff(d)
		wantNotJoined(t, d, back)
		wantNotJoined(t, back, d)
		wantNotJoined(t, d, diffOf(n[1], n[0], nil, nil))
	}
	// Either is not good.
	wantNotJoined(t, diffOf(1, 2, list(a), list(a)), diffOf(2, 3, nil, nil))
	wantNotJoined(t, diffOf(1, 2, nil, nil), diffOf(2, 3, list(a), list(a)))
	wantNotJoined(t, diffOf(1, 2, []impl.Record{b, a}, nil), diffOf(2, 3, nil, list(a, b)))
	wantNotJoined(t, diffOf(1, 2, nil, list(a, b)), diffOf(2, 3, []impl.Record{b, a}, nil))
	wantNotJoined(t, diffOf(2, 2, nil, nil), diffOf(2, 3, nil, nil))
	wantNotJoined(t, diffOf(1, 2, nil, nil), diffOf(2, 2, nil, nil))
}

func TestJoinedDiffsThatAreNotGood(t *testing.T) {
	l := addressesOf(80)
	first, second := l[:40], l[40:]
	// Forty are not too many; one more is, in either list.
	wantJoinedTo(t, diffOf(1, 2, l[:20], second[:30]), diffOf(2, 3, l[20:40], second[30:]), first, second)
	wantJoinedTo(t, diffOf(1, 2, l[20:40], nil), diffOf(2, 3, l[:20], nil), first, nil)
	wantNotJoined(t, diffOf(1, 2, first, nil), diffOf(2, 3, second[:1], nil))
	wantNotJoined(t, diffOf(1, 2, first[:1], nil), diffOf(2, 3, second, nil))
	wantNotJoined(t, diffOf(1, 2, nil, first), diffOf(2, 3, nil, second[:1]))
	wantNotJoined(t, diffOf(1, 2, nil, first[:1]), diffOf(2, 3, nil, second))
	wantNotJoined(t, diffOf(1, 2, first, nil), diffOf(2, 3, second, nil))
	wantNotJoined(t, diffOf(1, 2, first[:20], second[:20]), diffOf(2, 3, l[20:40], addressesOf(101)[80:]))
	// What came and went makes room.
	wantJoinedTo(t, diffOf(1, 2, nil, first), diffOf(2, 3, first, second), nil, second)
	wantJoinedTo(t, diffOf(1, 2, first, second), diffOf(2, 3, second, first), nil, nil)
	wantJoinedTo(t, diffOf(1, 2, first, nil), diffOf(2, 3, second[:1], first[:1]), list(append(slices.Clone(first[1:]), second[0])...), nil)
	// What both have counts once.
	wantJoinedTo(t, diffOf(1, 2, first, second), diffOf(2, 3, first, second), first, second)
	wantJoinedTo(t, diffOf(1, 2, first[:39], nil), diffOf(2, 3, first[1:], nil), first, nil)
	wantJoinedTo(t, diffOf(1, 2, nil, first[:39]), diffOf(2, 3, nil, first[1:]), nil, first)
	wantNotJoined(t, diffOf(1, 2, first, nil), diffOf(2, 3, l[1:41], nil))
	wantNotJoined(t, diffOf(1, 2, nil, first), diffOf(2, 3, nil, l[1:41]))
}

func TestNewJournals(t *testing.T) {
	for _, z := range []impl.Zone{zoneOf("ex.com", 0), zoneOf("", 7, addressOf("com", 1)), zoneOf("a.b.c", mostCounter), fullZone(40, 12), zoneOf("ex.com", allSerials+1, oneOfEachType("ex.com")[0])} {
		j, ok := impl.NewJournal(z)
		if !alikeJournals(j, impl.Journal{Apex: z.Apex, First: z.Counter}) || !ok {
			t.Errorf("NewJournal(%s) = %s, %v", shown(z), shown(j), ok)
		}
		wantJournalGood(t, j)
		wantKnown(t, j, z.Counter, nil)
		wantUnknown(t, j, z.Counter-1, z.Counter+1, -1)
		wantCaughtUp(t, z, j, z, 0)
	}
	bad := []impl.Zone{{}, {Apex: "ex.com"}, {Apex: "ex.com", Counter: 4, Records: zoneOf("ex.com", 3).Records}, {Apex: "ex.net", Counter: 3, Records: zoneOf("ex.com", 3).Records}, fullZone(41, 3), zoneOf("*", 3), zoneOf("*.com", 3), zoneOf("Ex.com", 3), zoneOf("ex.com", 3, addressOf("ex.net", 1))}
	for _, n := range badCounters() {
		bad = append(bad, impl.Zone{Apex: "ex.com", Counter: n, Records: zoneOf("ex.com", nearestCounter(n)).Records})
	}
	for _, z := range bad {
		if j, ok := impl.NewJournal(z); !alikeJournals(j, impl.Journal{}) || ok {
			t.Errorf("NewJournal(%s) = %s, %v; want the zero answer", shown(z), shown(j), ok)
		}
	}
}

func TestGoodJournals(t *testing.T) {
	for _, many := range []int{0, 1, 2, 11, 12} {
		for _, first := range []int{0, 1, 7, allSerials, mostCounter - 10*many} {
			wantJournalGood(t, stepsOf(first, many))
		}
	}
	for _, many := range []int{13, 14, 24, 500} {
		wantNoJournal(t, stepsOf(0, many), 0, 10)
	}
	wantJournalGood(t, impl.Journal{})
	for _, name := range goodNames() {
		// A name is asked for, and no word of the chapter bars a star from it here.
		j := stepsOf(5, 3)
		j.Apex = name
		wantJournalGood(t, j)
		wantKnown(t, j, 25, j.Diffs[2:])
	}
	for _, name := range badNames() {
		j := stepsOf(5, 3)
		j.Apex = name
		wantNoJournal(t, j, 5, 15)
		wantNoJournal(t, impl.Journal{Apex: name, First: 5}, 5)
	}
	for _, n := range counterEdges() {
		wantJournalGood(t, impl.Journal{Apex: "ex.com", First: n})
		if n > 0 {
			wantJournalGood(t, impl.Journal{Apex: "ex.com", First: n - 1, Diffs: []impl.Diff{diffOf(n-1, n, nil, nil)}})
		}
	}
	for _, n := range badCounters() {
		wantNoJournal(t, impl.Journal{Apex: "ex.com", First: n}, n)
		wantNoJournal(t, impl.Journal{Apex: "ex.com", First: n, Diffs: []impl.Diff{diffOf(n, 7, nil, nil)}}, 7)
		wantNoJournal(t, impl.Journal{Apex: "ex.com", First: 7, Diffs: []impl.Diff{diffOf(7, n, nil, nil)}}, 7)
	}
}

func TestDiffsOfJournalsThatAreNotGood(t *testing.T) {
	good := stepsOf(100, 4)
	for at := range good.Diffs {
		from, to := good.Diffs[at].From, good.Diffs[at].To
		damage := []impl.Diff{
			// A From that is not the To ahead (or First).
			diffOf(from-1, to, nil, nil), diffOf(from+1, to, nil, nil), diffOf(0, to, nil, nil), diffOf(from+allSerials, to+allSerials, nil, nil), diffOf(from-10, to, nil, nil),
			// A To that is not above its From.
			diffOf(from, from, nil, nil), diffOf(from, from-1, nil, nil), diffOf(from, 0, nil, nil), diffOf(to, from, nil, nil),
			// A diff that is not good.
			diffOf(from, to, list(addressOf("a", 1)), list(addressOf("a", 1))), diffOf(from, to, nil, addressesOf(41)), diffOf(from, to, make([]impl.Record, 1), nil), diffOf(from, mostCounter+1, nil, nil), {},
		}
		for _, d := range damage {
			j := impl.Journal{Apex: "ex.com", First: 100, Diffs: slices.Clone(good.Diffs)}
			j.Diffs[at] = d
			wantNoJournal(t, j, 100, 110, 140)
			// Also where it is the last one.
			j.Diffs = j.Diffs[:at+1]
			wantNoJournal(t, j, 100, 110, 140)
		}
	}
	// The first one is not From First, though all others fit.
	for _, first := range []int{0, 99, 101, 110, 100 + allSerials, mostCounter} {
		j := good
		j.First = first
		wantNoJournal(t, j, 100, 110, 140)
	}
	// All go down, each From being the To ahead.
	wantNoJournal(t, impl.Journal{Apex: "ex.com", First: 9, Diffs: []impl.Diff{diffOf(9, 8, nil, nil), diffOf(8, 7, nil, nil)}}, 7, 8, 9)
	wantNoJournal(t, impl.Journal{Apex: "ex.com", First: 9, Diffs: []impl.Diff{diffOf(9, 12, nil, nil), diffOf(12, 9, nil, nil), diffOf(9, 12, nil, nil)}}, 9, 12)
	wantNoJournal(t, impl.Journal{Apex: "ex.com", Diffs: make([]impl.Diff, 1)}, 0)
	wantNoJournal(t, impl.Journal{Apex: "ex.com", Diffs: make([]impl.Diff, 1<<16)}, 0)
	// Diffs may be of any length.
	wantJournalGood(t, impl.Journal{Apex: "ex.com", Diffs: []impl.Diff{diffOf(0, 1, nil, nil), diffOf(1, allSerials, addressesOf(40), nil), diffOf(allSerials, mostCounter, nil, addressesOf(40))}})
}

func TestDiffsPutIntoJournals(t *testing.T) {
	a, b := addressOf("a.ex.com", 1), addressOf("b.ex.com", 1)
	j := impl.Journal{Apex: "ex.com", First: 5}
	one, two := diffOf(5, 6, list(a), list(b)), diffOf(6, mostCounter, nil, addressesOf(40))
	j = wantPutInto(t, j, one, impl.Journal{Apex: "ex.com", First: 5, Diffs: []impl.Diff{one}})
	j = wantPutInto(t, j, two, impl.Journal{Apex: "ex.com", First: 5, Diffs: []impl.Diff{one, two}})
	wantKnown(t, j, 5, []impl.Diff{one, two})
	// There is no counter above the last one.
	for _, n := range append([]int{0, 5, 6, mostCounter - 1}, badCounters()...) {
		wantNotPutBehind(t, j, diffOf(mostCounter, n, nil, nil))
	}
	// Up to MaxJournal all stay; then the first one goes, and First is its To.
	for many := range 30 {
		first := 10 * max(0, many-12)
		from := stepsOf(first, min(many, 12))
		next := max(0, many-11) * 10
		wantPutInto(t, from, diffOf(10*many, 10*many+10, nil, nil), stepsOf(next, min(many+1, 12)))
	}
}

func TestDiffsThatAreNotPutBehindAJournal(t *testing.T) {
	for _, many := range []int{0, 1, 5, 11, 12} {
		j := stepsOf(100, many)
		end := 100 + 10*many
		wantPutInto(t, j, diffOf(end, end+1, nil, nil), impl.Journal{Apex: "ex.com", First: 100 + 10*max(0, many-11), Diffs: append(slices.Clone(j.Diffs[max(0, many-11):]), diffOf(end, end+1, nil, nil))})
		// It does not begin at the last To.
		for _, from := range []int{end - 1, end + 1, end - 10, end + 10, 0, end + allSerials, -1, math.MinInt} {
			wantNotPutBehind(t, j, diffOf(from, end+20, nil, nil))
			wantNotPutBehind(t, j, diffOf(from, from+1, nil, nil))
		}
		if many > 0 {
			wantNotPutBehind(t, j, diffOf(100, end+20, nil, nil))
			wantNotPutBehind(t, j, j.Diffs[0])
			wantNotPutBehind(t, j, j.Diffs[many-1])
		}
		// It leads back, or nowhere.
		for _, to := range []int{end - 1, end, 100, 99, 0, -1, math.MinInt} {
			wantNotPutBehind(t, j, diffOf(end, to, nil, nil))
		}
		// It is not good.
		for _, d := range []impl.Diff{{}, diffOf(end, end+1, list(addressOf("a", 1)), list(addressOf("a", 1))), diffOf(end, end+1, addressesOf(41), nil), diffOf(end, end+1, nil, make([]impl.Record, 2)), diffOf(end, mostCounter+1, nil, nil), diffOf(end, math.MaxInt, nil, nil)} {
			wantNotPutBehind(t, j, d)
		}
	}
	wantNotPutBehind(t, stepsOf(100, 13), diffOf(230, 231, nil, nil))
	wantNotPutBehind(t, impl.Journal{Apex: "*.*.", First: 3}, diffOf(3, 4, nil, nil))
}

func TestDiffsFromCounters(t *testing.T) {
	for _, many := range []int{0, 1, 2, 11, 12} {
		j := stepsOf(100, many)
		for i, d := range j.Diffs {
			j.Diffs[i] = diffOf(d.From, d.To, list(addressOf("a", i)), list(addressOf("a", i+1)))
		}
		for at := range many + 1 {
			wantKnown(t, j, 100+10*at, j.Diffs[at:])
			wantUnknown(t, j, 100+10*at-1, 100+10*at+1, 100+10*at-5, 100+10*at+5)
		}
		wantUnknown(t, j, 0, 90, 100+10*many+10, -1, 100+allSerials, mostCounter, math.MinInt, math.MaxInt)
	}
	edges := impl.Journal{Apex: "", Diffs: []impl.Diff{diffOf(0, mostCounter, nil, nil)}}
	wantKnown(t, edges, 0, edges.Diffs)
	wantKnown(t, edges, mostCounter, nil)
	wantUnknown(t, edges, 1, mostCounter-1, mostCounter+1, -1, allSerials)
	// A counter that went with the first diff is known no more.
	j, _ := impl.PutDiff(stepsOf(0, 12), diffOf(120, 130, nil, nil))
	wantUnknown(t, j, 0)
	wantKnown(t, j, 10, stepsOf(10, 12).Diffs)
}

// versionsUp are so many, of which each has one record more than the one ahead.
func versionsUp(many int) []impl.Zone {
	var versions []impl.Zone
	for i := range many {
		versions = append(versions, zoneOf("ex.com", 10+i*3, addressesOf(i)...))
	}
	return versions
}

func TestZonesThatCatchUp(t *testing.T) {
	for _, many := range []int{1, 2, 3, 12, 13} {
		versions := versionsUp(many)
		j := journalOf(versions...)
		last := versions[many-1]
		for at, z := range versions {
			wantCaughtUp(t, z, j, last, many-1-at)
		}
		// Counters that are not known.
		for _, n := range []int{0, 9, 11, 12, last.Counter - 1, last.Counter + 1, 10 + allSerials, mostCounter} {
			wantNotCaughtUp(t, atCounter(versions[0], n), j)
			wantNotCaughtUp(t, atCounter(last, n), j)
		}
		// Another apex, also where all else fits.
		for _, apex := range []string{"ex.net", "com", "", "x.ex.com", "*.com", "Ex.com"} {
			other := j
			other.Apex = apex
			wantNotCaughtUp(t, versions[0], other)
			wantNotCaughtUp(t, last, other)
			wantNotCaughtUp(t, zoneOf(apex, 10), j)
		}
		// Zones that are not good, at a counter that is known.
		for _, z := range []impl.Zone{{Apex: "ex.com", Counter: 10}, {Apex: "ex.com", Counter: last.Counter}, {Apex: "ex.com", Counter: last.Counter, Records: zoneOf("ex.com", 1).Records}, zoneOf("ex.com", 10, addressOf("ex.net", 1)), fullZone(41, last.Counter)} {
			wantNotCaughtUp(t, z, j)
		}
	}
}

func TestZonesThatCannotCatchUp(t *testing.T) {
	versions := versionsUp(6)
	j := journalOf(versions...)
	last := versions[5]
	extra := addressOf("extra.ex.com", 1)
	// Another record alone is in no diff's way.
	wantCaughtUp(t, zoneOf("ex.com", 10, extra), j, zoneOf("ex.com", 25, append(addressesOf(5), extra)...), 5)
	// At the counter of a version a zone has what one of the diffs adds: the first, one between, the last.
	for _, at := range []int{0, 2, 4} {
		z := zoneOf("ex.com", 10, addressesOf(5)[at])
		wantNotCaughtUp(t, z, j)
		// From behind that diff on it can.
		behind := versions[at+1]
		wantCaughtUp(t, behind, j, last, 4-at)
		wantCaughtUp(t, zoneOf("ex.com", behind.Counter, extra), j, zoneOf("ex.com", 25, append(slices.Clone(addressesOf(5)[at+1:]), extra)...), 4-at)
	}
	// It lacks what one of the diffs deletes.
	down := journalOf(zoneOf("ex.com", 1, addressesOf(3)...), zoneOf("ex.com", 2, addressesOf(3)[1:]...), zoneOf("ex.com", 3, addressesOf(3)[2:]...))
	wantCaughtUp(t, zoneOf("ex.com", 1, addressesOf(3)...), down, zoneOf("ex.com", 3, addressesOf(3)[2:]...), 2)
	wantCaughtUp(t, zoneOf("ex.com", 1, addressesOf(2)...), down, zoneOf("ex.com", 3), 2)
	wantNotCaughtUp(t, zoneOf("ex.com", 1, addressesOf(1)...), down)
	wantNotCaughtUp(t, zoneOf("ex.com", 1), down)
	wantCaughtUp(t, zoneOf("ex.com", 3), down, zoneOf("ex.com", 3), 0)
	// Behind one of the diffs the zone is not good: a rule, the serial, too many records.
	wantNotCaughtUp(t, zoneOf("ex.com", 10, hostOf("n002.ex.com", 5, "x")), j)
	wantNotCaughtUp(t, zoneOf("ex.com", 10), stepsOf(10, 3))
	wantCaughtUp(t, zoneOf("ex.com", 40), stepsOf(10, 3), zoneOf("ex.com", 40), 0)
	full := zoneOf("ex.com", 10, fullZone(36, 10).Records[1:]...)
	wantNotCaughtUp(t, full, j)
	wantCaughtUp(t, zoneOf("ex.com", 10, fullZone(35, 10).Records[1:]...), j, zoneOf("ex.com", 25, append(addressesOf(5), fullZone(35, 10).Records[1:]...)...), 5)
	// A rule that is broken on the way alone is broken, too.
	onTheWay := impl.Journal{Apex: "ex.com", First: 1, Diffs: []impl.Diff{
		diffOf(1, 2, list(soaOf("ex.com", 1)), list(soaOf("ex.com", 2), hostOf("a.ex.com", 5, "x"))),
		diffOf(2, 3, list(soaOf("ex.com", 2), hostOf("a.ex.com", 5, "x")), list(soaOf("ex.com", 3))),
	}}
	wantNotCaughtUp(t, zoneOf("ex.com", 1, addressOf("a.ex.com", 1)), onTheWay)
	wantCaughtUp(t, zoneOf("ex.com", 1, addressOf("b.ex.com", 1)), onTheWay, zoneOf("ex.com", 3, addressOf("b.ex.com", 1)), 2)
}

// A journal that has lost its first diffs still leads on from those that it knows.
func TestJournalsThatForget(t *testing.T) {
	versions := versionsUp(30)
	j, _ := impl.NewJournal(versions[0])
	for at := 1; at < len(versions); at++ {
		d, _ := impl.DiffOf(versions[at-1], versions[at])
		more, ok := impl.PutDiff(j, d)
		if !ok {
			t.Fatalf("PutDiff(%s, %s) tells false", shown(j), shown(d))
		}
		j = more
		for from, z := range versions[:at+1] {
			if from < at-12 {
				wantNotCaughtUp(t, z, j)
			} else {
				wantCaughtUp(t, z, j, versions[at], at-from)
			}
		}
		for _, z := range versions[at+1:] {
			wantNotCaughtUp(t, z, j)
		}
	}
}

// Promise 9, from outside: between all versions, there and back, and joined.
func TestWhatDiffersIsTheOtherVersion(t *testing.T) {
	r := rand.New(rand.NewSource(91))
	sizes := map[bool]int{}
	for range 150 {
		versions := randomVersions(r, 4)
		for _, a := range versions {
			for _, b := range versions {
				if a.Counter == b.Counter {
					wantNoDiff(t, a, b)
					continue
				}
				d, ok := impl.DiffOf(a, b)
				if !ok || !impl.GoodDiff(d) {
					t.Fatalf("DiffOf(%s, %s) = %s, %v", shown(a), shown(b), shown(d), ok)
				}
				sizes[len(d.Dels)+len(d.Adds) > 2]++
				wantPutTo(t, a, d, b)
				back, _ := impl.BackDiff(d)
				wantPutTo(t, b, back, a)
				wantNotPutTo(t, b, d)
			}
		}
		wantJoinsOfAll(t, versions)
	}
	if min(sizes[true], sizes[false]) < 100 {
		t.Error("the diffs are all of one kind", sizes)
	}
}

// wantJoinsOfAll asks for what differs between the first and the last of each three versions, by way of the second.
func wantJoinsOfAll(t *testing.T, versions []impl.Zone) {
	t.Helper()
	for _, a := range versions {
		for _, b := range versions {
			for _, c := range versions {
				first, ok := impl.DiffOf(a, b)
				second, also := impl.DiffOf(b, c)
				if !ok || !also {
					continue
				}
				if a.Counter == c.Counter {
					wantNotJoined(t, first, second)
					continue
				}
				want, _ := impl.DiffOf(a, c)
				wantJoinedTo(t, first, second, want.Dels, want.Adds)
				wantPutTo(t, a, want, c)
			}
		}
	}
}

// Promise 9, from outside: by a journal each version that it knows becomes the last one.
func TestJournalsLeadToTheLastVersion(t *testing.T) {
	r := rand.New(rand.NewSource(92))
	for range 100 {
		versions := randomVersions(r, 1+r.Intn(16))
		j, ok := impl.NewJournal(versions[0])
		for at := 1; at < len(versions) && ok; at++ {
			d, _ := impl.DiffOf(versions[at-1], versions[at])
			j, ok = impl.PutDiff(j, d)
		}
		if !ok || !impl.GoodJournal(j) {
			t.Fatalf("no journal leads through %s", shown(versions))
		}
		last := len(versions) - 1
		for at, z := range versions {
			if last-at > 12 {
				wantNotCaughtUp(t, z, j)
				continue
			}
			wantCaughtUp(t, z, j, versions[last], last-at)
			if at == last {
				continue
			}
			// One after the other, or all joined: it is the same.
			joined, l := impl.Diff{}, wantDiffsKnown(t, j, z.Counter)
			for i, d := range l {
				if i == 0 {
					joined = d
				} else if joined, ok = impl.JoinDiffs(joined, d); !ok {
					t.Fatalf("%s is not joined", shown(l[:i+1]))
				}
			}
			wantPutTo(t, z, joined, versions[last])
		}
	}
}

func wantDiffsKnown(t *testing.T, j impl.Journal, counter int) []impl.Diff {
	t.Helper()
	l, ok := impl.DiffsFrom(j, counter)
	if !ok {
		t.Fatalf("DiffsFrom(%s, %d) tells false", shown(j), counter)
	}
	return l
}
