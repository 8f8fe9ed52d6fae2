package tests

import (
	"math"
	"math/rand"
	"slices"
	"strings"
	"testing"

	"loop.example/g00300/impl"
)

func checkDiff(t *testing.T, d impl.Diff) {
	t.Helper()
	if impl.GoodDiff(d) != wantGoodDiff(d) {
		t.Errorf("GoodDiff(%s) = %v", shown(d), !wantGoodDiff(d))
	}
	want, ok := wantBackDiff(d)
	if got, good := impl.BackDiff(d); !alikeDiff(got, want) || good != ok {
		t.Errorf("BackDiff(%s) = %s, %v; want %s, %v", shown(d), shown(got), good, shown(want), ok)
	}
}

func checkDiffOf(t *testing.T, a, b impl.Zone) {
	t.Helper()
	want, ok := wantDiffOf(a, b)
	if got, good := impl.DiffOf(a, b); !alikeDiff(got, want) || good != ok {
		t.Errorf("DiffOf(%s, %s) = %s, %v; want %s, %v", shown(a), shown(b), shown(got), good, shown(want), ok)
	}
}

// checkApply tells whether the diff was put to the zone.
func checkApply(t *testing.T, z impl.Zone, d impl.Diff) bool {
	t.Helper()
	want, ok := wantApplied(z, d)
	if got, good := impl.ApplyDiff(z, d); !alikeZones(got, want) || good != ok {
		t.Errorf("ApplyDiff(%s, %s) = %s, %v; want %s, %v", shown(z), shown(d), shown(got), good, shown(want), ok)
	}
	return ok
}

// checkJoin tells whether the diffs were joined.
func checkJoin(t *testing.T, a, b impl.Diff) bool {
	t.Helper()
	want, ok := wantJoined(a, b)
	if got, good := impl.JoinDiffs(a, b); !alikeDiff(got, want) || good != ok {
		t.Errorf("JoinDiffs(%s, %s) = %s, %v; want %s, %v", shown(a), shown(b), shown(got), good, shown(want), ok)
	}
	return ok
}

// checkJournal tells whether the journal is good.
func checkJournal(t *testing.T, j impl.Journal, counters ...int) bool {
	t.Helper()
	if impl.GoodJournal(j) != wantGoodJournal(j) {
		t.Errorf("GoodJournal(%s) = %v", shown(j), !wantGoodJournal(j))
	}
	for _, n := range counters {
		want, ok := wantDiffsFrom(j, n)
		if got, good := impl.DiffsFrom(j, n); !alikeDiffs(got, want) || good != ok {
			t.Errorf("DiffsFrom(%s, %d) = %s, %v; want %s, %v", shown(j), n, shown(got), good, shown(want), ok)
		}
	}
	return wantGoodJournal(j)
}

func checkPutDiff(t *testing.T, j impl.Journal, d impl.Diff) {
	t.Helper()
	want, ok := wantPutDiff(j, d)
	if got, good := impl.PutDiff(j, d); !alikeJournals(got, want) || good != ok {
		t.Errorf("PutDiff(%s, %s) = %s, %v; want %s, %v", shown(j), shown(d), shown(got), good, shown(want), ok)
	}
}

// checkCatchUp tells whether the zone caught up.
func checkCatchUp(t *testing.T, z impl.Zone, j impl.Journal) bool {
	t.Helper()
	want, many, ok := wantCatchUp(z, j)
	if got, n, good := impl.CatchUp(z, j); !alikeZones(got, want) || n != many || good != ok {
		t.Errorf("CatchUp(%s, %s) = %s, %d, %v; want %s, %d, %v", shown(z), shown(j), shown(got), n, good, shown(want), many, ok)
	}
	fresh, ok1 := wantNewJournal(z)
	if got, good := impl.NewJournal(z); !alikeJournals(got, fresh) || good != ok1 {
		t.Errorf("NewJournal(%s) = %s, %v; want %s, %v", shown(z), shown(got), good, shown(fresh), ok1)
	}
	return ok
}

func TestDiffsAnswerAtAnyArguments(t *testing.T) {
	r := rand.New(rand.NewSource(93))
	put, joined := map[bool]int{}, map[bool]int{}
	for range 500 {
		versions := randomVersions(r, 3)
		a, b, c := versions[r.Intn(3)], versions[r.Intn(3)], versions[r.Intn(3)]
		other := damagedZone(r, a)
		for _, z := range []impl.Zone{a, b, c, other} {
			checkDiffOf(t, z, b)
			checkDiffOf(t, c, z)
		}
		first, _ := wantDiffOf(a, b)
		second, _ := wantDiffOf(b, c)
		third := damagedDiff(r, first)
		for _, d := range []impl.Diff{first, second, third, damagedDiff(r, second), damagedDiff(r, third)} {
			checkDiff(t, d)
			put[checkApply(t, a, d)]++
			put[checkApply(t, b, d)]++
			put[checkApply(t, other, d)]++
			joined[checkJoin(t, first, d)]++
			joined[checkJoin(t, d, second)]++
			joined[checkJoin(t, d, diffOf(d.To, randomInt(r), d.Dels, d.Adds))]++
		}
	}
	if min(put[true], put[false], joined[true], joined[false]) < 300 {
		t.Error("the diffs are all of one kind", put, joined)
	}
}

func TestJournalsAnswerAtAnyArguments(t *testing.T) {
	r := rand.New(rand.NewSource(94))
	good, caught := map[bool]int{}, map[bool]int{}
	for range 200 {
		versions := randomVersions(r, 2+r.Intn(13))
		last := len(versions) - 1
		whole := journalOf(versions...)
		d := whole.Diffs[last-1]
		j := journalOf(versions[:last]...)
		other := damagedJournal(r, j)
		checkPutDiff(t, j, d)
		checkPutDiff(t, j, damagedDiff(r, d))
		checkPutDiff(t, other, d)
		checkPutDiff(t, damagedJournal(r, other), d)
		checkPutDiff(t, whole, diffOf(d.To, randomInt(r), d.Adds, d.Dels))
		z := versions[r.Intn(len(versions))]
		for _, tried := range []impl.Journal{j, whole, other, damagedJournal(r, other), damagedJournal(r, whole)} {
			good[checkJournal(t, tried, z.Counter, z.Counter+1, randomInt(r), tried.First)]++
			caught[checkCatchUp(t, z, tried)]++
			caught[checkCatchUp(t, versions[0], tried)]++
			caught[checkCatchUp(t, damagedZone(r, z), tried)]++
			caught[checkCatchUp(t, atCounter(versions[0], z.Counter), tried)]++
		}
	}
	if min(good[true], good[false], caught[true], caught[false]) < 200 {
		t.Error("the journals are all of one kind", good, caught)
	}
}

// sharings are all ways to share a list's records out to two lists, or to neither; in order.
func sharings(l []impl.Record) [][2][]impl.Record {
	all := [][2][]impl.Record{{}}
	for _, r := range l {
		for _, to := range slices.Clone(all) {
			all = append(all, [2][]impl.Record{append(slices.Clone(to[0]), r), to[1]}, [2][]impl.Record{to[0], append(slices.Clone(to[1]), r)})
		}
	}
	return all
}

// All zones from few records that are in each other's way, and all diffs with these.
func TestAllSmallDiffsPutToAllSmallZones(t *testing.T) {
	pool := list(soaOf("com", 0), soaOf("com", 1), addressOf("a.com", 1), withTtl(addressOf("a.com", 1), 61), hostOf("a.com", 5, "x"))
	put := map[bool]int{}
	for bits := range 1 << len(pool) {
		z := impl.Zone{Apex: "com"}
		for i, r := range pool {
			if bits>>i&1 == 1 {
				z.Records = append(z.Records, r)
			}
		}
		for z.Counter = range 2 {
			for _, lists := range sharings(pool) {
				for _, n := range [][2]int{{0, 1}, {1, 0}, {0, 0}, {0, allSerials}, {1, 2}} {
					put[checkApply(t, z, diffOf(n[0], n[1], lists[0], lists[1]))]++
				}
			}
		}
	}
	if put[true] != 48 || put[false] < 1000 {
		t.Error("the diffs are all of one kind", put)
	}
}

// All diffs of three records between three counters, and all pairs of them.
func TestAllSmallDiffsJoined(t *testing.T) {
	pool := list(addressOf("a", 1), withTtl(addressOf("a", 1), 61), addressOf("b", 1))
	joined := map[bool]int{}
	var diffs []impl.Diff
	for _, lists := range sharings(pool) {
		for n := range 9 {
			diffs = append(diffs, diffOf(n/3, n%3, lists[0], lists[1]))
		}
	}
	for _, a := range diffs {
		checkDiff(t, a)
		for _, b := range diffs {
			joined[checkJoin(t, a, b)]++
		}
	}
	// Whatever the records of two good diffs are, the counters alone decide: six ways through all three of them.
	if joined[true] != 6*27*27 || joined[false] < 1000 {
		t.Error("other diffs are joined than those whose counters fit", joined)
	}
}

// All journals of at most three diffs between four counters, each asked for all counters about these.
func TestAllSmallJournals(t *testing.T) {
	good := map[bool]int{}
	var grow func(j impl.Journal)
	grow = func(j impl.Journal) {
		good[checkJournal(t, j, -1, 0, 1, 2, 3, 4)]++
		for n := range 16 {
			d := diffOf(n/4, n%4, nil, nil)
			checkPutDiff(t, j, d)
			if len(j.Diffs) < 3 {
				grow(impl.Journal{Apex: j.Apex, First: j.First, Diffs: append(slices.Clone(j.Diffs), d)})
			}
		}
	}
	for first := -1; first < 4; first++ {
		grow(impl.Journal{Apex: "ex.com", First: first})
	}
	if good[true] != 15 || good[false] < 1000 {
		t.Error("the journals are all of one kind", good)
	}
}

func TestDiffsAnswerAtWildArguments(t *testing.T) {
	long := strings.Repeat("a.", 1<<12)
	zones := []impl.Zone{zoneOf("ex.com", 5, addressOf("b.ex.com", 1)), zoneOf("", mostCounter), zoneOf("", 0), fullZone(40, 0)}
	numbers := []int{math.MinInt, math.MinInt + 1, -1, 0, 1, 5, 12, 40, allSerials + 5, mostCounter - 1, mostCounter, mostCounter + 1, math.MaxInt - 1, math.MaxInt}
	for _, n := range numbers {
		for _, s := range []string{"", ".", "ex.com", "*", "\n", "\x00", "\xff", long} {
			for _, l := range [][]impl.Record{nil, {}, {{}}, {{Name: s, Type: 6, Ttl: n, Data: s}}, {{Name: s, Type: 6, Data: "0"}}, {{Name: s, Type: n}}, make([]impl.Record, 40), make([]impl.Record, 500)} {
				z := impl.Zone{Apex: s, Counter: n, Records: l}
				for _, other := range numbers {
					d := diffOf(n, other, l, nil)
					checkDiff(t, d)
					checkDiff(t, diffOf(other, n, nil, l))
					checkJoin(t, d, diffOf(other, n, nil, l))
					checkJoin(t, d, diffOf(other, 7, l, nil))
					j := impl.Journal{Apex: s, First: n, Diffs: []impl.Diff{d}}
					checkJournal(t, j, n, other)
					checkPutDiff(t, j, diffOf(other, n, nil, l))
					checkPutDiff(t, impl.Journal{Apex: s, First: n}, d)
					checkCatchUp(t, z, j)
					checkCatchUp(t, zones[0], j)
				}
				for _, good := range zones {
					checkDiffOf(t, good, z)
					checkDiffOf(t, z, good)
					checkApply(t, good, diffOf(good.Counter, n, good.Records, l))
					checkApply(t, good, diffOf(n, good.Counter, l, good.Records))
					checkApply(t, z, diffOf(n, good.Counter, l, good.Records))
					checkCatchUp(t, good, impl.Journal{Apex: good.Apex, First: good.Counter, Diffs: []impl.Diff{diffOf(good.Counter, n, good.Records, l)}})
				}
			}
		}
		for _, l := range [][]impl.Diff{nil, {}, make([]impl.Diff, 1), make([]impl.Diff, 12), make([]impl.Diff, 13), make([]impl.Diff, 1<<12)} {
			checkJournal(t, impl.Journal{Apex: "ex.com", First: n, Diffs: l}, numbers...)
			checkPutDiff(t, impl.Journal{Apex: "ex.com", Diffs: l}, diffOf(0, n, nil, nil))
			checkCatchUp(t, fullZone(40, 0), impl.Journal{Apex: "ex.com", First: n, Diffs: l})
		}
	}
}

// freshDiff lies in memory of its own.
func freshDiff(d impl.Diff) impl.Diff {
	d.Dels, d.Adds = freshRecords(d.Dels), freshRecords(d.Adds)
	return d
}

func freshJournal(j impl.Journal) impl.Journal {
	fresh := impl.Journal{Apex: strings.Clone(j.Apex), First: j.First, Diffs: make([]impl.Diff, len(j.Diffs))}
	for i, d := range j.Diffs {
		fresh.Diffs[i] = freshDiff(d)
	}
	return fresh
}

// listsOf are all lists of records of diffs.
func listsOf(diffs ...impl.Diff) [][]impl.Record {
	var lists [][]impl.Record
	for _, d := range diffs {
		lists = append(lists, d.Dels, d.Adds)
	}
	return lists
}

func textsOfDiffs(diffs ...impl.Diff) []string {
	var texts []string
	for _, l := range listsOf(diffs...) {
		texts = append(texts, textsOfRecords(l)...)
	}
	return texts
}

// wantDiffsApart writes over each list of one answer in turn, up to its end in memory, and looks at all others; their texts are apart, too.
func wantDiffsApart(t *testing.T, diffs ...impl.Diff) {
	t.Helper()
	lists := listsOf(diffs...)
	var before [][]impl.Record
	for _, l := range lists {
		before = append(before, slices.Clone(l[:cap(l)]))
	}
	for i, l := range lists {
		writeOver(l, impl.Record{Name: "written"})
		for k, other := range lists {
			if k != i && !slices.Equal(other[:cap(other)], before[k]) {
				t.Errorf("lists %d and %d of one answer share memory: %s", i, k, shown(diffs))
			}
		}
		copy(l[:cap(l)], before[i])
		for _, other := range lists[i+1:] {
			wantApart(t, longTexts(l), longTexts(other)...)
		}
	}
}

func writeOverDiffs(diffs []impl.Diff) {
	for _, l := range listsOf(diffs...) {
		writeOver(l, impl.Record{Name: "written"})
	}
	writeOver(diffs, impl.Diff{From: -7})
}

func TestDiffAnswersShareNoMemory(t *testing.T) {
	r := rand.New(rand.NewSource(95))
	for range 150 {
		versions := randomVersions(r, 3)
		a, b, c := freshZone(versions[0]), freshZone(versions[1]), freshZone(versions[2])
		first, _ := wantDiffOf(a, b)
		second, _ := wantDiffOf(b, c)
		first, second = freshDiff(first), freshDiff(second)
		aBefore, bBefore, firstBefore, secondBefore := freshZone(a), freshZone(b), freshDiff(first), freshDiff(second)
		given := slices.Concat(textsOfZone(a), textsOfZone(b), textsOfDiffs(first, second))

		differs, _ := impl.DiffOf(a, b)
		back, _ := impl.BackDiff(first)
		joined, ok := impl.JoinDiffs(first, second)
		put, also := impl.ApplyDiff(a, first)
		if !ok || !also || len(put.Records) == 0 {
			t.Fatalf("JoinDiffs tells %v, ApplyDiff %v", ok, also)
		}
		diffs := []impl.Diff{differs, back, joined}
		wantApart(t, append(textsOfDiffs(diffs...), textsOfZone(put)...), given...)
		for _, d := range diffs {
			wantDiffsApart(t, d)
		}
		writeOverDiffs(diffs)
		writeOver(put.Records, impl.Record{Name: "written"})
		if !alikeZones(a, aBefore) || !alikeZones(b, bBefore) || !alikeDiff(first, firstBefore) || !alikeDiff(second, secondBefore) {
			t.Errorf("an answer shares memory with %s, %s, %s or %s", shown(aBefore), shown(bBefore), shown(firstBefore), shown(secondBefore))
		}
	}
}

func TestJournalAnswersShareNoMemory(t *testing.T) {
	r := rand.New(rand.NewSource(96))
	for range 100 {
		versions := randomVersions(r, 2+r.Intn(13))
		last := len(versions) - 1
		j, whole := freshJournal(journalOf(versions[:last]...)), journalOf(versions...)
		d := freshDiff(whole.Diffs[last-1])
		z := freshZone(versions[r.Intn(last)])
		jBefore, dBefore, zBefore := freshJournal(j), freshDiff(d), freshZone(z)
		given := slices.Concat(textsOfDiffs(j.Diffs...), textsOfDiffs(d), textsOfZone(z), []string{j.Apex})

		more, _ := impl.PutDiff(j, d)
		known, _ := impl.DiffsFrom(j, z.Counter)
		again, _ := impl.DiffsFrom(j, z.Counter)
		caught, _, ok := impl.CatchUp(z, j)
		stayed, _, also := impl.CatchUp(z, impl.Journal{Apex: z.Apex, First: z.Counter})
		fresh, _ := impl.NewJournal(z)
		if !ok || !also {
			t.Fatalf("CatchUp tells %v, %v", ok, also)
		}
		wantApart(t, slices.Concat(textsOfDiffs(more.Diffs...), textsOfDiffs(known...), textsOfZone(caught), textsOfZone(stayed), []string{more.Apex, fresh.Apex}), given...)
		wantDiffsApart(t, more.Diffs...)
		wantDiffsApart(t, known...)
		writeOverDiffs(more.Diffs)
		writeOverDiffs(known)
		writeOver(caught.Records, impl.Record{Name: "written"})
		writeOver(stayed.Records, impl.Record{Name: "written"})
		if want, _ := wantDiffsFrom(j, z.Counter); !alikeDiffs(again, want) {
			t.Errorf("an answer shares memory with one told ahead: %s", shown(again))
		}
		if !alikeJournals(j, jBefore) || !alikeDiff(d, dBefore) || !alikeZones(z, zBefore) {
			t.Errorf("an answer shares memory with %s, %s or %s", shown(jBefore), shown(dBefore), shown(zBefore))
		}
	}
}

// Lists that lie in one memory when they are handed in are apart in the answer.
func TestListsOfOneMemoryAreTwo(t *testing.T) {
	l := freshRecords(addressesOf(20))
	// The one begins where the other ends, or both are one list that goes at first and comes then.
	halves := diffOf(3, 4, l[:10], l[10:])
	gone, come := diffOf(1, 2, l, nil), diffOf(2, 3, nil, l)
	back, _ := impl.BackDiff(halves)
	wantDiffsApart(t, back)
	joined, ok := impl.JoinDiffs(diffOf(1, 3, l[:4], l[4:8]), diffOf(3, 4, l[8:12], l[12:]))
	if !ok {
		t.Error("no diffs are joined")
	}
	wantDiffsApart(t, joined)
	// Both diffs have one memory, of which each record is told once.
	same, ok := impl.JoinDiffs(halves, diffOf(4, 5, l[:10], l[10:]))
	if !ok || !alikeDiff(same, diffOf(3, 5, l[:10], l[10:])) {
		t.Errorf("JoinDiffs = %s, %v", shown(same), ok)
	}
	wantDiffsApart(t, same)
	wantApart(t, textsOfDiffs(same), textsOfRecords(l)...)
	j := impl.Journal{Apex: "ex.com", First: 1, Diffs: []impl.Diff{gone, come, halves}}
	known := wantDiffsKnown(t, j, 1)
	wantDiffsApart(t, known...)
	more, ok := impl.PutDiff(j, diffOf(4, 5, l, nil))
	if !ok || !alikeDiffs(known, j.Diffs) || len(more.Diffs) != 4 {
		t.Errorf("PutDiff = %s, %v", shown(more), ok)
	}
	wantDiffsApart(t, more.Diffs...)
	wantApart(t, append(textsOfDiffs(more.Diffs...), textsOfDiffs(known...)...), textsOfRecords(l)...)
	// A zone's own records as what goes.
	z := freshZone(zoneOf("ex.com", 5, l...))
	put, ok := impl.ApplyDiff(z, diffOf(5, 5+allSerials, z.Records[1:], nil))
	if !alikeZones(put, zoneOf("ex.com", 5+allSerials)) || !ok {
		t.Errorf("ApplyDiff = %s, %v", shown(put), ok)
	}
	writeOver(put.Records, impl.Record{Name: "written"})
	if !alikeZones(z, zoneOf("ex.com", 5, addressesOf(20)...)) || !slices.Equal(l, addressesOf(20)) {
		t.Error("an argument was written into", shown(z), shown(l))
	}
}

// withSpareLists puts records behind the lists of a diff, of which one is not good.
func withSpareLists(d impl.Diff) impl.Diff {
	d.Dels, d.Adds = withSpareRecords(d.Dels), withSpareRecords(d.Adds)
	return d
}

// withSpareDiffs puts diffs behind a journal's, of which the first would go on where it ends, and records behind the lists of all.
func withSpareDiffs(j impl.Journal) impl.Journal {
	var l []impl.Diff
	for _, d := range j.Diffs {
		l = append(l, withSpareLists(d))
	}
	stops := wantStops(j)
	end := stops[len(stops)-1]
	j.Diffs = append(l, diffOf(end, end+1, nil, nil), diffOf(-1, -1, make([]impl.Record, 1), nil))[:len(l)]
	return j
}

// wholeDiffs has each list up to its end in memory.
func wholeDiffs(l []impl.Diff) []impl.Diff {
	whole := slices.Clone(l[:cap(l)])
	for i, d := range whole {
		whole[i].Dels, whole[i].Adds = slices.Clone(d.Dels[:cap(d.Dels)]), slices.Clone(d.Adds[:cap(d.Adds)])
	}
	return whole
}

func TestDiffsWriteIntoNothing(t *testing.T) {
	r := rand.New(rand.NewSource(97))
	for i := range 200 {
		versions := randomVersions(r, 4+r.Intn(11))
		last := len(versions) - 1
		a, b := versions[last-2], versions[last-1]
		j := journalOf(versions[:last]...)
		first, _ := wantDiffOf(a, b)
		second, _ := wantDiffOf(b, versions[last])
		if i%4 == 0 {
			a, j = damagedZone(r, a), damagedJournal(r, j)
		}
		if i%5 == 0 {
			first, second = damagedDiff(r, first), damagedDiff(r, second)
		}
		a.Records, b.Records, j = withSpareRecords(a.Records), withSpareRecords(b.Records), withSpareDiffs(j)
		diffs := []impl.Diff{withSpareLists(first), withSpareLists(second)}
		aBefore, bBefore := slices.Clone(a.Records[:cap(a.Records)]), slices.Clone(b.Records[:cap(b.Records)])
		diffsBefore, jBefore := wholeDiffs(diffs), wholeDiffs(j.Diffs)
		checkDiffOf(t, a, b)
		checkDiff(t, diffs[0])
		checkApply(t, a, diffs[0])
		checkJoin(t, diffs[0], diffs[1])
		checkJournal(t, j, a.Counter, b.Counter, j.First)
		checkPutDiff(t, j, diffs[1])
		checkCatchUp(t, a, j)
		if !slices.Equal(a.Records[:cap(a.Records)], aBefore) || !slices.Equal(b.Records[:cap(b.Records)], bBefore) {
			t.Errorf("a zone was written into: %s, %s", shown(a), shown(b))
		}
		if !alikeDiffs(wholeDiffs(diffs), diffsBefore) || !alikeDiffs(wholeDiffs(j.Diffs), jBefore) {
			t.Errorf("a diff or a journal was written into: %s, %s", shown(diffs), shown(j))
		}
	}
}

// What lies behind a list's length is neither looked at nor handed out: neither records nor diffs.
func TestNothingIsToldFromBehindDiffs(t *testing.T) {
	a, b := addressOf("a.ex.com", 1), addressOf("b.ex.com", 1)
	one, two := zoneOf("ex.com", 5, a), zoneOf("ex.com", 6, b)
	one.Records = append(slices.Clone(one.Records), b)[:2]
	two.Records = append(slices.Clone(two.Records), a)[:2]
	wantDiffIs(t, one, two, list(soaOf("ex.com", 5), a), list(soaOf("ex.com", 6), b))
	// Behind both lists stands what is in the other one.
	d := withSpareLists(diffOf(5, 6, list(soaOf("ex.com", 5), a, b)[:2], list(soaOf("ex.com", 6), b, a)[:1]))
	wantDiffGood(t, d)
	wantPutTo(t, one, d, zoneOf("ex.com", 6))
	j := withSpareDiffs(impl.Journal{Apex: "ex.com", First: 5, Diffs: []impl.Diff{d}})
	wantJournalGood(t, j)
	wantKnown(t, j, 5, []impl.Diff{d})
	wantKnown(t, j, 6, nil)
	wantUnknown(t, j, 7)
	wantCaughtUp(t, one, j, zoneOf("ex.com", 6), 1)
	next := diffOf(6, 9, nil, list(a))
	more := wantPutInto(t, j, next, impl.Journal{Apex: "ex.com", First: 5, Diffs: []impl.Diff{d, next}})
	wantUnknown(t, more, 7)
	told, _ := impl.PutDiff(j, next)
	back, _ := impl.BackDiff(d)
	joined, _ := impl.JoinDiffs(d, withSpareLists(next))
	same, _ := impl.JoinDiffs(d, withSpareLists(diffOf(6, 7, d.Dels, d.Adds)))
	known := wantDiffsKnown(t, j, 5)
	for _, l := range listsOf(slices.Concat([]impl.Diff{back, joined, same}, told.Diffs, known)...) {
		for _, r := range l[:cap(l)][len(l):] {
			if r != (impl.Record{}) {
				t.Errorf("behind what is told stands %s", shown(r))
			}
		}
	}
	for _, l := range [][]impl.Diff{told.Diffs, known} {
		for _, d := range l[:cap(l)][len(l):] {
			if !alikeDiff(d, impl.Diff{}) {
				t.Errorf("behind the diffs that are told stands %s", shown(d))
			}
		}
	}
}
