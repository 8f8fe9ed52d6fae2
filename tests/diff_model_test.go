package tests

import (
	"fmt"
	"math/rand"
	"slices"

	"loop.example/g00300/impl"
)

// The model has its own number, so that the program's constant is asked for, too.
const mostInJournal = 12

// countsOf tells how often more each record is told by the lists of the one side than by those of the other.
func countsOf(more, less [][]impl.Record) map[impl.Record]int {
	counts := map[impl.Record]int{}
	for _, l := range more {
		for _, r := range l {
			counts[r]++
		}
	}
	for _, l := range less {
		for _, r := range l {
			counts[r]--
		}
	}
	return counts
}

// withCount are the records that have one of these counts, in order.
func withCount(counts map[impl.Record]int, wanted ...int) []impl.Record {
	var l []impl.Record
	for r, many := range counts {
		if slices.Contains(wanted, many) {
			l = append(l, r)
		}
	}
	return inOrder(l...)
}

// areCounted tells whether each record is counted between these.
func areCounted(counts map[impl.Record]int, least, most int) bool {
	for _, many := range counts {
		if many < least || many > most {
			return false
		}
	}
	return true
}

func wantGoodDiff(d impl.Diff) bool {
	if !wantCounter(d.From) || !wantCounter(d.To) || d.From == d.To || !wantAsSaid("", d.Dels) || !wantAsSaid("", d.Adds) {
		return false
	}
	return areCounted(countsOf([][]impl.Record{d.Dels, d.Adds}, nil), 1, 1)
}

func wantDiffOf(a, b impl.Zone) (impl.Diff, bool) {
	if !wantGoodZone(a) || !wantGoodZone(b) || a.Apex != b.Apex || a.Counter == b.Counter {
		return impl.Diff{}, false
	}
	counts := countsOf([][]impl.Record{b.Records}, [][]impl.Record{a.Records})
	return impl.Diff{From: a.Counter, To: b.Counter, Dels: withCount(counts, -1), Adds: withCount(counts, 1)}, true
}

func wantApplied(z impl.Zone, d impl.Diff) (impl.Zone, bool) {
	counts := countsOf([][]impl.Record{z.Records, d.Adds}, [][]impl.Record{d.Dels})
	if !wantGoodZone(z) || !wantGoodDiff(d) || z.Counter != d.From || !areCounted(counts, 0, 1) {
		return impl.Zone{}, false
	}
	made := impl.Zone{Apex: z.Apex, Counter: d.To, Records: withCount(counts, 1)}
	if !wantGoodZone(made) {
		return impl.Zone{}, false
	}
	return made, true
}

func wantBackDiff(d impl.Diff) (impl.Diff, bool) {
	if !wantGoodDiff(d) {
		return impl.Diff{}, false
	}
	return impl.Diff{From: d.To, To: d.From, Dels: d.Adds, Adds: d.Dels}, true
}

// wantJoined has each record once that goes or comes at all, be it by one of the diffs or by both.
func wantJoined(a, b impl.Diff) (impl.Diff, bool) {
	if !wantGoodDiff(a) || !wantGoodDiff(b) || a.To != b.From || a.From == b.To {
		return impl.Diff{}, false
	}
	counts := countsOf([][]impl.Record{a.Adds, b.Adds}, [][]impl.Record{a.Dels, b.Dels})
	d := impl.Diff{From: a.From, To: b.To, Dels: withCount(counts, -1, -2), Adds: withCount(counts, 1, 2)}
	if !wantGoodDiff(d) {
		return impl.Diff{}, false
	}
	return d, true
}

func wantNewJournal(z impl.Zone) (impl.Journal, bool) {
	if !wantGoodZone(z) {
		return impl.Journal{}, false
	}
	return impl.Journal{Apex: z.Apex, First: z.Counter}, true
}

// wantStops are the counters that a journal knows, from First on.
func wantStops(j impl.Journal) []int {
	stops := []int{j.First}
	for _, d := range j.Diffs {
		stops = append(stops, d.To)
	}
	return stops
}

func wantGoodJournal(j impl.Journal) bool {
	if !wantGood(j.Apex) || !wantCounter(j.First) || len(j.Diffs) > mostInJournal {
		return false
	}
	stops := wantStops(j)
	for i, d := range j.Diffs {
		if !wantGoodDiff(d) || d.From != stops[i] || stops[i] >= stops[i+1] {
			return false
		}
	}
	return true
}

// wantPutDiff takes the journal with the diff in it, or without its first one, as good just where the diff may be put.
func wantPutDiff(j impl.Journal, d impl.Diff) (impl.Journal, bool) {
	if !wantGoodJournal(j) {
		return impl.Journal{}, false
	}
	all := append(slices.Clone(j.Diffs), d)
	from := max(0, len(all)-mostInJournal)
	made := impl.Journal{Apex: j.Apex, First: append(wantStops(j), d.To)[from], Diffs: all[from:]}
	if !wantGoodJournal(made) {
		return impl.Journal{}, false
	}
	return made, true
}

func wantDiffsFrom(j impl.Journal, counter int) ([]impl.Diff, bool) {
	at := slices.Index(wantStops(j), counter)
	if !wantGoodJournal(j) || at < 0 {
		return nil, false
	}
	return j.Diffs[at:], true
}

func wantCatchUp(z impl.Zone, j impl.Journal) (impl.Zone, int, bool) {
	l, ok := wantDiffsFrom(j, z.Counter)
	if !ok || !wantGoodZone(z) || z.Apex != j.Apex {
		return impl.Zone{}, 0, false
	}
	for _, d := range l {
		if z, ok = wantApplied(z, d); !ok {
			return impl.Zone{}, 0, false
		}
	}
	return z, len(l), true
}

func alikeDiff(a, b impl.Diff) bool {
	return a.From == b.From && a.To == b.To && slices.Equal(a.Dels, b.Dels) && slices.Equal(a.Adds, b.Adds)
}

func alikeDiffs(a, b []impl.Diff) bool {
	return slices.EqualFunc(a, b, alikeDiff)
}

func alikeJournals(a, b impl.Journal) bool {
	return a.Apex == b.Apex && a.First == b.First && alikeDiffs(a.Diffs, b.Diffs)
}

// atCounter is a zone at another counter, with the serial of that.
func atCounter(z impl.Zone, counter int) impl.Zone {
	z.Counter, z.Records = counter, slices.Clone(z.Records)
	for i := range z.Records {
		if z.Records[i].Type == 6 {
			z.Records[i].Data = fmt.Sprint(counter % allSerials)
		}
	}
	return z
}

// randomVersions are good zones of one apex with rising counters, each some changes behind the one ahead.
func randomVersions(r *rand.Rand, many int) []impl.Zone {
	return versionsFrom(r, goodRandomZone(r), many)
}

func versionsFrom(r *rand.Rand, z impl.Zone, many int) []impl.Zone {
	for z.Counter > mostCounter/2 {
		z = atCounter(z, z.Counter/2)
	}
	versions := []impl.Zone{z}
	for len(versions) < many {
		counter := z.Counter
		for range r.Intn(4) {
			z, _ = wantBatch(z, randomBatch(r, z, 8))
		}
		// As many as all serials on, or twice so, the serial is the same.
		z = atCounter(z, counter+[]int{1, 1, 2, allSerials, 2 * allSerials, 1 + r.Intn(1000), 1 + r.Intn(allSerials)}[r.Intn(7)])
		versions = append(versions, z)
	}
	return versions
}

// journalOf leads through versions that have rising counters.
func journalOf(versions ...impl.Zone) impl.Journal {
	j := impl.Journal{Apex: versions[0].Apex, First: versions[0].Counter}
	for i := range versions[1:] {
		d, _ := wantDiffOf(versions[i], versions[i+1])
		j.Diffs = append(j.Diffs, d)
	}
	return j
}

// damagedDiff changes one thing about a diff; the one handed in stays as it is.
func damagedDiff(r *rand.Rand, d impl.Diff) impl.Diff {
	switch r.Intn(8) {
	case 0:
		d.From = randomInt(r)
	case 1:
		d.To = randomInt(r)
	case 2:
		d.From, d.To = d.To, d.From
	case 3:
		d.Dels = damagedZone(r, impl.Zone{Records: d.Dels}).Records
	case 4:
		d.Adds = damagedZone(r, impl.Zone{Records: d.Adds}).Records
	case 5:
		d.Dels, d.Adds = d.Adds, d.Dels
	case 6:
		d.Adds = inOrder(slices.Concat(d.Adds, d.Dels)...)
	case 7:
		d.Dels = inOrder(append(slices.Clone(d.Dels), randomZoneRecord(r, "ex.com"))...)
	}
	return d
}

// damagedJournal changes one thing about a journal; the one handed in stays as it is.
func damagedJournal(r *rand.Rand, j impl.Journal) impl.Journal {
	j.Diffs = slices.Clone(j.Diffs)
	if len(j.Diffs) == 0 {
		j.Diffs = []impl.Diff{{From: j.First, To: randomInt(r)}}
	}
	at, other := r.Intn(len(j.Diffs)), r.Intn(len(j.Diffs))
	switch r.Intn(7) {
	case 0:
		j.Apex = damaged(r, j.Apex)
	case 1:
		j.First = randomInt(r)
	case 2:
		j.Diffs[at], j.Diffs[other] = j.Diffs[other], j.Diffs[at]
	case 3:
		j.Diffs = slices.Insert(j.Diffs, at, j.Diffs[other])
	case 4:
		j.Diffs = slices.Delete(j.Diffs, at, at+1)
	default:
		j.Diffs[at] = damagedDiff(r, j.Diffs[at])
	}
	return j
}
