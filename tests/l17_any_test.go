package tests

import (
	"cmp"
	"math/rand"
	"slices"
	"strings"
	"testing"
	"unsafe"

	"loop.example/g00300/impl"
)

// checkFleet asks for all that is told of a fleet alone. It tells whether it is good.
func checkFleet(t *testing.T, f impl.Fleet) bool {
	t.Helper()
	good := wantGoodFleet(f)
	if impl.GoodFleet(f) != good {
		t.Errorf("GoodFleet(%s) = %v", shown(f), !good)
	}
	want, many, ok := wantSettled(f)
	if got, used, told := impl.SettleFleet(f); !alikeFleets(got, want) || used != many || told != ok {
		t.Errorf("SettleFleet(%s) = %s, %d, %v; want %s, %d, %v", shown(f), shown(got), used, told, shown(want), many, ok)
	} else if ok && !impl.GoodFleet(got) {
		t.Errorf("SettleFleet(%s) = %s, which is not good", shown(f), shown(got))
	}
	for edge := -1; edge <= 3; edge++ {
		checkLag(t, f, edge)
	}
	return good
}

func checkLag(t *testing.T, f impl.Fleet, edge int) {
	t.Helper()
	want, ok := wantLagOf(f, edge)
	if got, told := impl.LagOf(f, edge); got != want || told != ok {
		t.Errorf("LagOf(%s, %d) = %d, %v; want %d, %v", shown(f), edge, got, told, want, ok)
	}
}

// checkAnswerAt tells whether the edge is asked.
func checkAnswerAt(t *testing.T, f impl.Fleet, edge int, name string, kind, least int) bool {
	t.Helper()
	want, asked, ok := wantAnswerAt(f, edge, name, kind, least)
	if got, told, known := impl.AnswerAt(f, edge, name, kind, least); !alikeFounds(got, want) || told != asked || known != ok {
		t.Errorf("AnswerAt(%s, %d, %.80q, %d, %d) = %s, %v, %v; want %s, %v, %v", shown(f), edge, name, kind, least, shown(got), told, known, shown(want), asked, ok)
	}
	return asked
}

// checkFleetStep tells whether it is done.
func checkFleetStep(t *testing.T, f impl.Fleet, s impl.EdgeStep) bool {
	t.Helper()
	want, ok := wantStepFleet(f, s)
	got, told := impl.StepFleet(f, s)
	if !alikeFleets(got, want) || told != ok {
		t.Errorf("StepFleet(%s, %s) = %s, %v; want %s, %v", shown(f), shown(s), shown(got), told, shown(want), ok)
	}
	if ok && !impl.GoodFleet(got) {
		t.Errorf("StepFleet(%s, %s) = %s, which is not good", shown(f), shown(s), shown(got))
	}
	return ok
}

// checkFleetPlay tells whether the steps are taken.
func checkFleetPlay(t *testing.T, edges int, l []impl.EdgeStep) bool {
	t.Helper()
	want, ok := wantNewFleet(edges)
	if got, told := impl.NewFleet(edges); !alikeFleets(got, want) || told != ok {
		t.Errorf("NewFleet(%d) = %s, %v; want %s, %v", edges, shown(got), told, shown(want), ok)
	}
	want, signs, ok := wantPlayFleet(edges, l)
	got, done, told := impl.PlayFleet(edges, l)
	if !alikeFleets(got, want) || !slices.Equal(done, signs) || told != ok {
		t.Errorf("PlayFleet(%d, %s) = %s, %s, %v; want %s, %s, %v", edges, shown(l), shown(got), signsOf(done), told, shown(want), signsOf(signs), ok)
	}
	if ok && !impl.GoodFleet(got) {
		t.Errorf("PlayFleet(%d, %s) = %s, which is not good", edges, shown(l), shown(got))
	}
	return ok
}

func TestFleetsAnswerAtAnyArguments(t *testing.T) {
	r := rand.New(rand.NewSource(177))
	good, asked := map[bool]int{}, map[bool]int{}
	done := map[int]int{}
	for range 300 {
		f := randomFleet(r)
		other := damagedFleet(r, f)
		for _, tried := range []impl.Fleet{f, other, damagedFleet(r, other)} {
			good[checkFleet(t, tried)]++
			for range 8 {
				if s := randomEdgeStep(r, tried); checkFleetStep(t, tried, s) {
					done[s.Kind]++
				} else {
					done[0]++
				}
			}
			for range 3 {
				edge := r.Intn(len(tried.Edges) + 1)
				least := oneOf(r, []int{randomInt(r), 0, tried.Control.Zone.Counter})
				if edge < len(tried.Edges) {
					least = oneOf(r, []int{least, tried.Edges[edge].Zone.Counter + r.Intn(3) - 1})
				}
				asked[checkAnswerAt(t, tried, edge, randomLookName(r, "ex.com"), oneOf(r, []int{1, 1, 2, 5, 6, 15, 16, randomInt(r)}), least)]++
			}
		}
		if t.Failed() {
			return
		}
	}
	if min(good[true], good[false], asked[true], asked[false]) < 200 || len(done) < 9 {
		t.Error("the fleets are all of one kind", good, done, asked)
	}
}

func TestRowsOfEdgeStepsAnswerAtAnyArguments(t *testing.T) {
	r := rand.New(rand.NewSource(178))
	played := map[bool]int{}
	for range 250 {
		edges := oneOf(r, []int{1, 2, 3, r.Intn(6) - 1, randomInt(r)})
		many := oneOf(r, []int{0, 1, 20, r.Intn(mostEdgeSteps), mostEdgeSteps - 1, mostEdgeSteps, mostEdgeSteps, mostEdgeSteps + 1})
		played[checkFleetPlay(t, edges, randomEdgeSteps(r, edges, many))]++
		if t.Failed() {
			return
		}
	}
	if min(played[true], played[false]) < 50 {
		t.Error("the rows are all of one kind", played)
	}
}

// Promise 17. The versions that were are those that PlayAsked tells of, which knows nothing of edges.
func TestEdgesOfPlayedFleetsHaveVersionsThatWere(t *testing.T) {
	r := rand.New(rand.NewSource(179))
	lags := map[int]int{}
	for range 150 {
		edges := 1 + r.Intn(mostEdges)
		row := randomEdgeSteps(r, edges, r.Intn(mostEdgeSteps+1))
		c, _ := impl.NewControl("ex.com")
		versions := []impl.Zone{c.Zone}
		for many := 0; many <= len(row); many++ {
			if many > 0 && row[many-1].Kind == 1 {
				if then, _, ok := impl.TakeAsked(c, row[many-1].Asked); ok {
					c, versions = then, append(versions, then.Zone)
				}
			}
			if many%10 > 0 && many < len(row) {
				continue
			}
			f, _, ok := impl.PlayFleet(edges, row[:many])
			if !ok || len(f.Edges) != edges {
				t.Errorf("PlayFleet(%d, %s) = %s, %v", edges, shown(row[:many]), shown(f), ok)
			}
			wantVersionsThatWere(t, f, versions)
			wantAllCome(t, f)
			for edge := range f.Edges {
				lag, _ := impl.LagOf(f, edge)
				lags[min(lag, 15)]++
			}
		}
		if t.Failed() {
			return
		}
	}
	if len(lags) < 16 {
		t.Error("the edges are all of one kind", lags)
	}
}

// Promise 17 by parcels alone: when each parcel that an edge needs has come it has the last version.
func TestEdgesThatAreSentAllHaveTheLastVersion(t *testing.T) {
	r := rand.New(rand.NewSource(180))
	for range 100 {
		f, _, _ := impl.PlayFleet(2, randomEdgeSteps(r, 2, r.Intn(100)))
		f.Parcels = nil
		for edge := range f.Edges {
			for {
				lag, _ := impl.LagOf(f, edge)
				then, ok := impl.StepFleet(f, sendStep(edge))
				if !ok && lag > 0 {
					then, ok = impl.StepFleet(f, wholeStep(edge))
				}
				if !ok {
					break
				}
				f, _ = impl.StepFleet(then, takeStep(0))
				if now, _ := impl.LagOf(f, edge); now >= lag {
					t.Fatalf("the edge %d of %s has a lag of %d behind a parcel, and had %d", edge, shown(f), now, lag)
				}
			}
			if !alikeZones(f.Edges[edge].Zone, f.Control.Zone) {
				t.Errorf("the edge %d of %s has not the last version", edge, shown(f))
			}
		}
	}
}

// Nobody goes back by a parcel, whatever is on the way: crashes alone lead back, to what was saved.
func TestEdgesNeverGoBackByParcels(t *testing.T) {
	r := rand.New(rand.NewSource(181))
	taken := 0
	for range 150 {
		f := randomFleet(r)
		for k := range f.Parcels {
			then, ok := impl.StepFleet(f, takeStep(k))
			to := f.Parcels[k].To
			if !ok || len(then.Parcels) != len(f.Parcels)-1 || then.Edges[to].Zone.Counter < f.Edges[to].Zone.Counter {
				t.Errorf("StepFleet(%s, EdgeTake %d) = %s, %v", shown(f), k, shown(then), ok)
			}
			if then.Edges[to].Zone.Counter > f.Edges[to].Zone.Counter {
				taken++
			}
		}
	}
	if taken < 100 {
		t.Error("few parcels are of use", taken)
	}
}

// All rows of at most four steps of a few that are in each other's way, of one and of two edges.
func TestAllShortRowsOfEdgeSteps(t *testing.T) {
	few := []impl.EdgeStep{
		askStep(addAsked(1)), askStep(addAsked(2)), sendStep(0), sendStep(1), wholeStep(0), takeStep(0), takeStep(1), twiceStep(0), loseStep(0), crashStep(0), saveStep(0),
	}
	// Behind each of these beginnings, in which there is something to do.
	for _, first := range [][]impl.EdgeStep{
		nil,
		{askStep(addAsked(1)), sendStep(0), askStep(addAsked(2)), wholeStep(0)},
		{askStep(addAsked(1)), wholeStep(0), askStep(addAsked(2)), sendStep(0), takeStep(1), saveStep(0)},
	} {
		for _, numbers := range smallLists(3, 0, len(few)-1) {
			row := slices.Clone(first)
			for _, n := range numbers {
				row = append(row, few[n])
			}
			checkFleetPlay(t, 1, row)
			checkFleetPlay(t, 2, row)
			if t.Failed() {
				return
			}
		}
	}
}

// All fleets of one edge and at most two parcels with counters close together: whole zones, diffs, and what is not good.
func TestAllSmallFleets(t *testing.T) {
	v := playedVersions(4)
	var parcels []impl.Parcel
	for at, z := range v {
		parcels = append(parcels, wholeTo(0, z))
		for to := range v {
			if d, ok := wantDiffOf(z, v[to]); ok {
				parcels = append(parcels, diffTo(0, d))
			}
		}
		parcels = append(parcels, impl.Parcel{To: at - 1, Diff: impl.Diff{From: at, To: at}}, impl.Parcel{To: at - 1, Diff: impl.Diff{From: at, To: at + 1}})
	}
	good := 0
	try := func(f impl.Fleet, l ...impl.Parcel) {
		f.Parcels = l
		if !checkFleet(t, f) {
			return
		}
		good++
		for k := -1; k <= len(l); k++ {
			for kind := range 10 {
				checkFleetStep(t, f, impl.EdgeStep{Kind: kind, Edge: k, K: k, Asked: addAsked(1)})
			}
		}
	}
	for last := range v {
		for now := range v {
			for first := range last + 1 {
				f := fleetAt(v[now], v[first:last+1]...)
				f.Edges[0].Saved = v[0]
				try(f)
				for _, p := range parcels {
					try(f, p)
				}
			}
		}
		if t.Failed() {
			return
		}
	}
	f := fleetAt(v[1], v[:3]...)
	for _, p := range parcels {
		for _, q := range parcels {
			try(f, p, q)
		}
	}
	if good < 200 {
		t.Error("few fleets are good", good)
	}
}

func TestFleetsAnswerAtWildArguments(t *testing.T) {
	edges := append(wildInts(), 0, 1, 2, 3, 4, 8, 9, 11, 12, 13, 22, 23, 120, 121, mostCounter, mostCounter+1)
	long := strings.Repeat("a.", 1<<20)
	f := fleetOf3()
	for _, a := range edges {
		for _, b := range edges {
			for _, s := range []impl.EdgeStep{{Kind: a, Edge: b, K: b}, {Kind: 1, Edge: a, K: a, Asked: askedBy(a, b)}, {Kind: 2, Edge: a, K: b}, {Kind: 3, Edge: a, K: b}, {Kind: 7, Edge: a, Asked: askedBy(3, b, impl.Change{Kind: a})}} {
				checkFleetStep(t, f, s)
				checkFleetPlay(t, 2, []impl.EdgeStep{s, askStep(addAsked(1)), s, sendStep(0), s})
			}
			checkFleet(t, with(f, func(f *impl.Fleet) { f.Parcels[0] = diffTo(1, diffOf(a, b, nil, nil)) }))
			checkFleet(t, with(f, func(f *impl.Fleet) { f.Parcels[0] = diffTo(a, diffOf(0, b, nil, nil)) }))
			checkFleet(t, with(f, func(f *impl.Fleet) { f.Parcels[0] = wholeTo(a, atCounter(f.Edges[0].Zone, b)) }))
			checkFleet(t, with(f, func(f *impl.Fleet) {
				f.Edges[1].Zone, f.Edges[1].Saved = impl.Zone{Apex: "ex.com", Counter: a}, atCounter(f.Edges[0].Zone, b)
			}))
			checkFleet(t, with(f, func(f *impl.Fleet) { f.Journal.First, f.Control.Many = a, b }))
			checkFleet(t, impl.Fleet{Control: impl.Control{Zone: impl.Zone{Apex: "ex.com", Counter: a}}, Journal: impl.Journal{Apex: "ex.com", First: b}})
			checkAnswerAt(t, f, a, "ex.com", 1, b)
			checkAnswerAt(t, f, 1, "ex.com", a, b)
		}
		checkFleetPlay(t, a, nil)
		checkFleetPlay(t, a, []impl.EdgeStep{{Kind: a, Edge: a, K: a}})
		checkLag(t, f, a)
		for _, s := range []string{"", ".", "*", "\n", "\x00", "\xff", " ", long} {
			checkAnswerAt(t, f, 0, s, 1, a)
			checkFleetStep(t, f, askStep(askedBy(3, 20, impl.Change{Kind: 1, Record: impl.Record{Name: s, Type: a, Ttl: a, Data: s}})))
		}
	}
	for _, s := range []string{"", ".", "com", "ex.com.", "\x00", long} {
		checkFleet(t, with(f, func(f *impl.Fleet) { f.Journal.Apex = s }))
		checkFleet(t, with(f, func(f *impl.Fleet) { f.Control.Zone.Apex = s }))
		checkFleet(t, with(f, func(f *impl.Fleet) { f.Edges[1].Saved.Apex = s }))
		checkFleet(t, with(f, func(f *impl.Fleet) { f.Parcels[0].Zone.Apex = s }))
		checkFleet(t, with(f, func(f *impl.Fleet) { f.Parcels[1].Zone.Apex = s }))
	}
	many := make([]impl.Record, 1<<16)
	checkFleet(t, with(f, func(f *impl.Fleet) { f.Edges[1].Zone.Records = many }))
	checkFleet(t, with(f, func(f *impl.Fleet) { f.Parcels[0].Zone.Records = many }))
	checkFleet(t, with(f, func(f *impl.Fleet) { f.Parcels[1].Diff.Adds = many }))
	checkFleet(t, with(f, func(f *impl.Fleet) { f.Journal.Diffs = make([]impl.Diff, 1<<16) }))
	checkFleet(t, with(f, func(f *impl.Fleet) { f.Edges = make([]impl.Edge, 1<<16) }))
	checkFleet(t, with(f, func(f *impl.Fleet) { f.Parcels = make([]impl.Parcel, 1<<16) }))
	checkFleetStep(t, f, askStep(askedBy(3, 20, make([]impl.Change, 1<<16)...)))
	checkFleetPlay(t, 2, make([]impl.EdgeStep, 1<<16))
}

// withSpareFleet puts more behind each list of a fleet, in its memory.
func withSpareFleet(f impl.Fleet) impl.Fleet {
	spare := wholeTo(0, zoneOf("ex.com", 0))
	f.Control, f.Journal = withSpareControl(f.Control), withSpareDiffs(f.Journal)
	var edges []impl.Edge
	for _, e := range f.Edges {
		e.Zone.Records, e.Saved.Records = withSpareRecords(e.Zone.Records), withSpareRecords(e.Saved.Records)
		edges = append(edges, e)
	}
	var parcels []impl.Parcel
	for _, p := range f.Parcels {
		p.Zone.Records, p.Diff = withSpareRecords(p.Zone.Records), withSpareLists(p.Diff)
		parcels = append(parcels, p)
	}
	f.Edges = append(edges, edgeAt(spare.Zone, spare.Zone), impl.Edge{})[:len(edges)]
	f.Parcels = append(parcels, spare, impl.Parcel{To: -1}, spare)[:len(parcels)]
	return f
}

// wholeFleet is a copy of all that lies in the memory of a fleet's lists.
func wholeFleet(f impl.Fleet) impl.Fleet {
	whole := func(l []impl.Record) []impl.Record { return slices.Clone(l[:cap(l)]) }
	f.Control.Zone.Records, f.Control.Last = whole(f.Control.Zone.Records), slices.Clone(f.Control.Last[:cap(f.Control.Last)])
	f.Journal.Diffs = wholeDiffs(f.Journal.Diffs)
	f.Edges, f.Parcels = slices.Clone(f.Edges[:cap(f.Edges)]), slices.Clone(f.Parcels[:cap(f.Parcels)])
	for i, e := range f.Edges {
		f.Edges[i].Zone.Records, f.Edges[i].Saved.Records = whole(e.Zone.Records), whole(e.Saved.Records)
	}
	for i, p := range f.Parcels {
		f.Parcels[i].Zone.Records, f.Parcels[i].Diff.Dels, f.Parcels[i].Diff.Adds = whole(p.Zone.Records), whole(p.Diff.Dels), whole(p.Diff.Adds)
	}
	return f
}

// What lies behind the lists of a fleet, or of what is asked, would be seen: it does not count, and stays.
func TestNoFleetIsWrittenInto(t *testing.T) {
	r := rand.New(rand.NewSource(182))
	for range 100 {
		f := randomFleet(r)
		for _, tried := range []impl.Fleet{f, damagedFleet(r, f), {}} {
			tried = withSpareFleet(tried)
			before := wholeFleet(tried)
			checkFleet(t, tried)
			for kind := range 10 {
				s := randomEdgeStep(r, tried)
				s.Kind, s.Asked.Changes = kind, withSpareChanges(s.Asked.Changes)
				changes := s.Asked.Changes[:cap(s.Asked.Changes)]
				changesBefore := slices.Clone(changes)
				checkFleetStep(t, tried, s)
				checkFleetPlay(t, 2, []impl.EdgeStep{s, s, sendStep(0), s})
				if !slices.Equal(changes, changesBefore) {
					t.Errorf("%s was written into", shown(changesBefore))
				}
			}
			for edge := -1; edge <= len(tried.Edges); edge++ {
				checkAnswerAt(t, tried, edge, "a.ex.com", 1, 0)
			}
			if !alikeFleets(wholeFleet(tried), before) {
				t.Errorf("%s was written into", shown(before))
			}
		}
		if t.Failed() {
			return
		}
	}
}

func freshEdgeSteps(l []impl.EdgeStep) []impl.EdgeStep {
	l = slices.Clone(l)
	for i, s := range l {
		l[i].Asked = freshAsked(s.Asked)
	}
	return l
}

func alikeEdgeSteps(a, b impl.EdgeStep) bool {
	return a.Kind == b.Kind && a.Edge == b.Edge && a.K == b.K && alikeAsked(a.Asked, b.Asked)
}

func TestNoRowOfEdgeStepsIsWrittenInto(t *testing.T) {
	r := rand.New(rand.NewSource(183))
	for range 60 {
		row := randomEdgeSteps(r, 2, mostEdgeSteps+3)
		before := freshEdgeSteps(row)
		for _, many := range []int{0, 1, r.Intn(mostEdgeSteps), mostEdgeSteps, mostEdgeSteps + 1} {
			checkFleetPlay(t, 2, row[:many])
		}
		if !slices.EqualFunc(row, before, alikeEdgeSteps) {
			t.Errorf("%s was written into", shown(before))
		}
	}
}

// partsOfFleet are the zones and the diffs of a fleet, of which each one has lists.
func partsOfFleet(f impl.Fleet) ([]impl.Zone, []impl.Diff) {
	zones, diffs := []impl.Zone{f.Control.Zone}, slices.Clone(f.Journal.Diffs)
	for _, e := range f.Edges {
		zones = append(zones, e.Zone, e.Saved)
	}
	for _, p := range f.Parcels {
		zones, diffs = append(zones, p.Zone), append(diffs, p.Diff)
	}
	return zones, diffs
}

func textsOfFleet(f impl.Fleet) []string {
	zones, diffs := partsOfFleet(f)
	return append(append(textsOfZones(zones...), textsOfDiffs(diffs...)...), f.Journal.Apex)
}

// recordListsOf are all lists of records of a fleet.
func recordListsOf(f impl.Fleet) [][]impl.Record {
	zones, diffs := partsOfFleet(f)
	return listsOf(append(zonesAsDiffs(zones), diffs...)...)
}

// wantFleetApart: no text of a fleet lies in what was given nor in another one of it, no two lists of it share memory, and nothing lies behind them.
func wantFleetApart(t *testing.T, f impl.Fleet, given ...string) {
	t.Helper()
	wantTextsApart(t, textsOfFleet(f), given)
	for i, l := range recordListsOf(f) {
		wantZerosBehind(t, l)
		writeOver(l, impl.Record{Name: "written", Ttl: i})
	}
	for i, l := range recordListsOf(f) {
		for _, r := range l[:cap(l)] {
			if r.Ttl != i {
				t.Errorf("the lists %d and %d of one answer share memory", i, r.Ttl)
			}
		}
	}
	wantZerosBehind(t, f.Control.Last)
	for _, e := range f.Edges[len(f.Edges):cap(f.Edges)] {
		if !alikeEdges(e, impl.Edge{}) {
			t.Errorf("behind the edges stands %s", shown(e))
		}
	}
	for _, p := range f.Parcels[len(f.Parcels):cap(f.Parcels)] {
		if !alikeParcels(p, impl.Parcel{}) {
			t.Errorf("behind the parcels stands %s", shown(p))
		}
	}
}

// span is where a text lies in memory.
type span struct {
	from, to uintptr
	told     bool
	text     string
}

func spansOf(texts []string, told bool) []span {
	var l []span
	for _, s := range texts {
		// Texts of one or two bytes may lie in one place for all.
		if len(s) > 2 {
			from := uintptr(unsafe.Pointer(unsafe.StringData(s)))
			l = append(l, span{from, from + uintptr(len(s)), told, s})
		}
	}
	return l
}

// wantTextsApart goes through memory once, for there are many texts: no text that is told lies upon another one, nor upon one that was given.
func wantTextsApart(t *testing.T, texts, given []string) {
	t.Helper()
	spans := append(spansOf(texts, true), spansOf(given, false)...)
	slices.SortFunc(spans, func(a, b span) int { return cmp.Compare(a.from, b.from) })
	var toldEnd, givenEnd uintptr
	for _, s := range spans {
		if s.from < toldEnd || s.told && s.from < givenEnd {
			t.Errorf("%q lies where another text does, one of which is told", s.text)
		}
		if s.told {
			toldEnd = max(toldEnd, s.to)
		} else {
			givenEnd = max(givenEnd, s.to)
		}
	}
}

func writeOverFleet(f impl.Fleet) {
	for _, l := range recordListsOf(f) {
		writeOver(l, impl.Record{Name: "written"})
	}
	writeOver(f.Control.Last, doneFor(-7, -7, -7, -7))
	writeOver(f.Journal.Diffs, impl.Diff{From: -7})
	writeOver(f.Edges, impl.Edge{})
	writeOver(f.Parcels, impl.Parcel{To: -7})
}

// Each answer is written over up to its end in memory: neither what was given nor another answer may change by that.
func TestFleetAnswersShareNoMemory(t *testing.T) {
	r := rand.New(rand.NewSource(184))
	done := map[int]int{}
	for range 120 {
		f := freshFleet(randomFleet(r))
		before := freshFleet(f)
		for kind := range 9 {
			s := randomEdgeStep(r, f)
			if s.Kind = kind; kind == 1 {
				s.Asked = freshAsked(randomAsked(r, f.Control))
			}
			given := append(textsOfFleet(f), textsOfBatch(s.Asked.Changes)...)
			told, ok := impl.StepFleet(f, s)
			again, _ := impl.StepFleet(f, s)
			if kind == 0 {
				told, _, ok = impl.SettleFleet(f)
				again, _, _ = impl.SettleFleet(f)
			}
			if !ok {
				continue
			}
			done[kind]++
			kept := freshFleet(again)
			wantFleetApart(t, told, given...)
			writeOverFleet(told)
			if !alikeFleets(again, kept) || !alikeFleets(f, before) {
				t.Errorf("an answer of the kind %d shares memory with one told ahead, or with %s", kind, shown(before))
			}
		}
		if t.Failed() {
			return
		}
	}
	if len(done) < 9 {
		t.Error("the steps are all of one kind", done)
	}
}

func TestPlayedFleetsShareNoMemory(t *testing.T) {
	r := rand.New(rand.NewSource(185))
	for range 60 {
		edges := 1 + r.Intn(mostEdges)
		row, given := freshEdgeSteps(randomEdgeSteps(r, edges, r.Intn(mostEdgeSteps+1))), []string(nil)
		for _, s := range row {
			given = append(given, textsOfBatch(s.Asked.Changes)...)
		}
		told, done, _ := impl.PlayFleet(edges, row)
		again, doneAgain, _ := impl.PlayFleet(edges, row)
		kept, doneKept := freshFleet(again), slices.Clone(done)
		wantZerosBehind(t, done)
		wantFleetApart(t, told, given...)
		writeOverFleet(told)
		if !slices.Equal(done, doneKept) {
			t.Errorf("two lists of one answer share memory: %v", doneKept)
		}
		writeOver(done, true)
		if !alikeFleets(again, kept) || !slices.Equal(doneAgain, doneKept) {
			t.Errorf("%s shares memory with what is told again", shown(kept))
		}
		checkFleetPlay(t, edges, row)
		fresh, _ := impl.NewFleet(edges)
		wantFleetApart(t, fresh)
		writeOverFleet(fresh)
		if another, _ := impl.NewFleet(edges); !alikeFleets(another, newFollow(edges).fleet()) {
			t.Errorf("new fleets share memory: %s", shown(another))
		}
	}
}

func TestAnswersOfEdgesShareNoMemory(t *testing.T) {
	r := rand.New(rand.NewSource(186))
	told := 0
	for range 300 {
		f := freshFleet(randomFleet(r))
		before := freshFleet(f)
		name := strings.Clone(randomLookName(r, "ex.com"))
		found, ok, _ := impl.AnswerAt(f, 0, name, 1, 0)
		again, _, _ := impl.AnswerAt(f, 0, name, 1, 0)
		if ok && len(found.Records) > 0 {
			told++
		}
		kept := impl.Found{Kind: again.Kind, Owner: again.Owner, Records: freshRecords(again.Records)}
		wantApart(t, textsOfFound(found), append(textsOfFleet(f), name)...)
		wantFoundApart(t, found)
		writeOver(found.Records, impl.Record{Name: "written"})
		if !alikeFounds(again, kept) || !alikeFleets(f, before) {
			t.Errorf("what is told of %q shares memory with one told ahead, or with %s", name, shown(before))
		}
	}
	if told < 50 {
		t.Error("few edges tell of records", told)
	}
}

// A fleet whose lists and texts all lie in one memory, which each zone and each diff of it shares.
func TestAFleetOfOneMemory(t *testing.T) {
	whole := strings.Clone("a.ex.com")
	record := impl.Record{Name: whole, Type: 5, Ttl: 60, Data: whole}
	z := zoneOf("ex.com", 7, record)
	z.Apex, z.Records[0].Name = whole[2:], whole[2:]
	list := []impl.Record{record}
	d := impl.Diff{From: 6, To: 7, Adds: list}
	late := impl.Diff{From: 5, To: 6, Dels: list}
	f := impl.Fleet{
		Control: controlWith(z, 3, doneFor(3, 5, 0, 7)),
		Journal: impl.Journal{Apex: whole[2:], First: 6, Diffs: []impl.Diff{d}},
		Edges:   []impl.Edge{edgeAt(z, z), edgeAt(z, z)},
		Parcels: []impl.Parcel{wholeTo(0, z), wholeTo(1, z), diffTo(0, d), diffTo(1, late)},
	}
	before := freshFleet(f)
	for _, s := range []impl.EdgeStep{askStep(askedBy(3, 5)), askStep(askedBy(3, 6)), askStep(askedBy(3, 6, add(record), del(record))), wholeStep(0), takeStep(0), takeStep(2), loseStep(0), twiceStep(0), twiceStep(2), crashStep(0), saveStep(1)} {
		told, ok := impl.StepFleet(f, s)
		if !ok {
			t.Errorf("StepFleet(%s, %v) is not done", shown(f), s)
		}
		wantFleetApart(t, told, whole)
	}
	settled, _, _ := impl.SettleFleet(f)
	wantFleetApart(t, settled, whole)
	found, _, _ := impl.AnswerAt(f, 0, whole, 5, 0)
	wantApart(t, textsOfFound(found), whole)
	if !alikeFleets(f, before) {
		t.Errorf("%s was written into", shown(before))
	}
}

// What is told hangs on the arguments alone, not on what was asked ahead.
func TestFleetsAreToldAlikeEachTime(t *testing.T) {
	r := rand.New(rand.NewSource(187))
	f := fleetOf3()
	row := randomEdgeSteps(r, 3, 60)
	for range 40 {
		checkFleet(t, f)
		for _, s := range []impl.EdgeStep{askStep(askedBy(3, 6)), askStep(askedBy(3, 4)), sendStep(1), takeStep(0), takeStep(1), twiceStep(1), saveStep(0), crashStep(0)} {
			checkFleetStep(t, f, s)
		}
		checkAnswerAt(t, f, 1, "ex.com", 6, 19)
		checkFleetPlay(t, 3, row)
		other := randomFleet(r)
		checkFleetStep(t, other, randomEdgeStep(r, other))
	}
}

// Whoever asks at the same time asks for himself.
func TestFleetsAreToldAlikeToSeveralAtOnce(t *testing.T) {
	f := fleetOf3()
	row := randomEdgeSteps(rand.New(rand.NewSource(188)), 3, 60)
	ended := make(chan bool)
	for range 8 {
		go func() {
			for range 8 {
				checkFleet(t, f)
				checkFleetStep(t, f, askStep(askedBy(3, 6)))
				checkFleetStep(t, f, takeStep(1))
				checkFleetPlay(t, 3, row)
				checkAnswerAt(t, f, 1, "ex.com", 6, 19)
			}
			ended <- true
		}()
	}
	for range 8 {
		<-ended
	}
}
