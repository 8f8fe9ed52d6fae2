package tests

import (
	"math"
	"slices"
	"testing"

	"loop.example/g00300/impl"
)

// wantFleetGood tells the fleet.
func wantFleetGood(t *testing.T, f impl.Fleet) impl.Fleet {
	t.Helper()
	if !impl.GoodFleet(f) {
		t.Errorf("GoodFleet(%s) = false", shown(f))
	}
	return f
}

// wantFleetBad also asks whoever is given a fleet.
func wantFleetBad(t *testing.T, f impl.Fleet) {
	t.Helper()
	if impl.GoodFleet(f) {
		t.Errorf("GoodFleet(%s) = true", shown(f))
	}
	wantUnsettled(t, f)
	for edge := -1; edge <= 3; edge++ {
		wantNoLag(t, f, edge)
		wantNothingAt(t, f, edge, "ex.com", 6, math.MinInt)
		wantNotDoneIn(t, f, sendStep(edge), takeStep(edge), loseStep(edge), twiceStep(edge), wholeStep(edge), crashStep(edge), saveStep(edge))
	}
	wantNotDoneIn(t, f, askStep(askedBy(50, 1)), askStep(askedBy(3, 5)), impl.EdgeStep{})
}

func wantNotDoneIn(t *testing.T, f impl.Fleet, steps ...impl.EdgeStep) {
	t.Helper()
	for _, s := range steps {
		if got, ok := impl.StepFleet(f, s); !alikeFleets(got, impl.Fleet{}) || ok {
			t.Errorf("StepFleet(%s, %s) = %s, %v", shown(f), shown(s), shown(got), ok)
		}
	}
}

// wantDoneIn tells the fleet then.
func wantDoneIn(t *testing.T, f impl.Fleet, s impl.EdgeStep, want impl.Fleet) impl.Fleet {
	t.Helper()
	got, ok := impl.StepFleet(f, s)
	if !alikeFleets(got, want) || !ok {
		t.Errorf("StepFleet(%s, %s) = %s, %v; want %s", shown(f), shown(s), shown(got), ok, shown(want))
	}
	return wantFleetGood(t, got)
}

func wantUnsettled(t *testing.T, f impl.Fleet) {
	t.Helper()
	if got, used, ok := impl.SettleFleet(f); !alikeFleets(got, impl.Fleet{}) || used != 0 || ok {
		t.Errorf("SettleFleet(%s) = %s, %d, %v", shown(f), shown(got), used, ok)
	}
}

// wantSettledTo has the zones of the edges in turn; all else stays, but for the parcels.
func wantSettledTo(t *testing.T, f impl.Fleet, used int, zones ...impl.Zone) {
	t.Helper()
	want := freshFleet(f)
	want.Parcels = nil
	for i, z := range zones {
		want.Edges[i].Zone = z
	}
	got, many, ok := impl.SettleFleet(f)
	if !alikeFleets(got, want) || many != used || !ok {
		t.Errorf("SettleFleet(%s) = %s, %d, %v; want %s, %d", shown(f), shown(got), many, ok, shown(want), used)
	}
	wantFleetGood(t, got)
}

func wantLag(t *testing.T, f impl.Fleet, lags ...int) {
	t.Helper()
	for edge, lag := range lags {
		if got, ok := impl.LagOf(f, edge); got != lag || !ok {
			t.Errorf("LagOf(%s, %d) = %d, %v; want %d", shown(f), edge, got, ok, lag)
		}
	}
	wantNoLag(t, f, append(wildInts(), len(lags), len(lags)+1, 3, 4)...)
}

func wantNoLag(t *testing.T, f impl.Fleet, edges ...int) {
	t.Helper()
	for _, edge := range edges {
		if got, ok := impl.LagOf(f, edge); got != 0 || ok {
			t.Errorf("LagOf(%s, %d) = %d, %v", shown(f), edge, got, ok)
		}
	}
}

func wantToldAt(t *testing.T, f impl.Fleet, edge int, name string, kind, least int, want impl.Found) {
	t.Helper()
	if got, told, ok := impl.AnswerAt(f, edge, name, kind, least); !alikeFounds(got, want) || !told || !ok {
		t.Errorf("AnswerAt(%s, %d, %q, %d, %d) = %s, %v, %v; want %s", shown(f), edge, name, kind, least, shown(got), told, ok, shown(want))
	}
}

// wantTooOldAt asks for what an edge that is too far behind tells.
func wantTooOldAt(t *testing.T, f impl.Fleet, edge int, name string, kind, least int) {
	t.Helper()
	if got, told, ok := impl.AnswerAt(f, edge, name, kind, least); !alikeFounds(got, impl.Found{}) || told || !ok {
		t.Errorf("AnswerAt(%s, %d, %q, %d, %d) = %s, %v, %v", shown(f), edge, name, kind, least, shown(got), told, ok)
	}
}

func wantNothingAt(t *testing.T, f impl.Fleet, edge int, name string, kind, least int) {
	t.Helper()
	if got, told, ok := impl.AnswerAt(f, edge, name, kind, least); !alikeFounds(got, impl.Found{}) || told || ok {
		t.Errorf("AnswerAt(%s, %d, %.80q, %d, %d) = %s, %v, %v", shown(f), edge, name, kind, least, shown(got), told, ok)
	}
}

// wantFleetPlayed has a + for each step that is done, a - for each that isn't. It tells the fleet.
func wantFleetPlayed(t *testing.T, edges int, l []impl.EdgeStep, done string) impl.Fleet {
	t.Helper()
	got, all, ok := impl.PlayFleet(edges, l)
	if signsOf(all) != done || !ok {
		t.Errorf("PlayFleet(%d, %s) = %s, %s, %v; want %s", edges, shown(l), shown(got), signsOf(all), ok, done)
	}
	return wantFleetGood(t, got)
}

func wantFleetNotPlayed(t *testing.T, edges int, l ...impl.EdgeStep) {
	t.Helper()
	if got, all, ok := impl.PlayFleet(edges, l); !alikeFleets(got, impl.Fleet{}) || len(all) != 0 || ok {
		t.Errorf("PlayFleet(%d, %s) = %s, %v, %v", edges, shown(l), shown(got), all, ok)
	}
}

// fleetOf3 has three edges, the first with the last version, the others behind, and a parcel of each kind on the way.
func fleetOf3() impl.Fleet {
	v := versionsUp(5)
	d, _ := wantDiffOf(v[3], v[4])
	return impl.Fleet{
		Control: controlWith(v[4], 12, doneFor(3, 5, 2, 6)),
		Journal: journalOf(v[1:]...),
		Edges:   []impl.Edge{edgeAt(v[4], v[2]), edgeAt(v[3], v[3]), edgeAt(v[0], v[0])},
		Parcels: []impl.Parcel{wholeTo(2, v[3]), diffTo(1, d)},
	}
}

// fleetAt is of one edge, which has this zone; the control has the last version, and the journal leads through all.
func fleetAt(z impl.Zone, versions ...impl.Zone) impl.Fleet {
	return impl.Fleet{
		Control: controlWith(versions[len(versions)-1], 0),
		Journal: journalOf(versions...),
		Edges:   []impl.Edge{edgeAt(z, z)},
	}
}

// with changes a copy of a fleet.
func with(f impl.Fleet, change func(*impl.Fleet)) impl.Fleet {
	f = freshFleet(f)
	change(&f)
	return f
}

// addAsked adds an address for the client 1; no is the last number of it, too.
func addAsked(no int) impl.Asked {
	return askedBy(1, no, add(addressOf("a.ex.com", no)))
}

func TestEdgeConstants(t *testing.T) {
	if impl.MaxEdges != mostEdges || impl.MaxEdgeSteps != mostEdgeSteps {
		t.Error(impl.MaxEdges, impl.MaxEdgeSteps)
	}
	if kinds := []int{impl.EdgeAsk, impl.EdgeSend, impl.EdgeTake, impl.EdgeLose, impl.EdgeTwice, impl.EdgeWhole, impl.EdgeCrash, impl.EdgeSave}; !slices.Equal(kinds, []int{1, 2, 3, 4, 5, 6, 7, 8}) {
		t.Error(kinds)
	}
}

func TestNewFleets(t *testing.T) {
	z := zoneOf("ex.com", 0)
	for edges := 1; edges <= 3; edges++ {
		want := impl.Fleet{Control: controlWith(z, 0), Journal: journalOf(z)}
		for range edges {
			want.Edges = append(want.Edges, edgeAt(z, z))
		}
		got, ok := impl.NewFleet(edges)
		if !alikeFleets(got, want) || !ok {
			t.Errorf("NewFleet(%d) = %s, %v", edges, shown(got), ok)
		}
		wantFleetGood(t, got)
		wantLag(t, got, make([]int, edges)...)
		wantSettledTo(t, got, 0)
		if played := wantFleetPlayed(t, edges, nil, ""); !alikeFleets(played, want) {
			t.Errorf("PlayFleet(%d) of no step = %s", edges, shown(played))
		}
	}
	for _, edges := range append(wildInts(), 0, -2, 4, 5, 12) {
		if got, ok := impl.NewFleet(edges); !alikeFleets(got, impl.Fleet{}) || ok {
			t.Errorf("NewFleet(%d) = %s, %v", edges, shown(got), ok)
		}
		wantFleetNotPlayed(t, edges)
		wantFleetNotPlayed(t, edges, askStep(addAsked(1)))
	}
}

func TestControlsOfFleets(t *testing.T) {
	f := wantFleetGood(t, fleetOf3())
	wantFleetBad(t, impl.Fleet{})
	for _, many := range []int{0, 1000000} {
		wantFleetGood(t, with(f, func(f *impl.Fleet) { f.Control.Many = many }))
	}
	for _, many := range []int{-1, 1000001} {
		wantFleetBad(t, with(f, func(f *impl.Fleet) { f.Control.Many = many }))
	}
	wantFleetGood(t, with(f, func(f *impl.Fleet) { f.Control.Last = clientsTo(8) }))
	wantFleetBad(t, with(f, func(f *impl.Fleet) { f.Control.Last = clientsTo(9) }))
	wantFleetBad(t, with(f, func(f *impl.Fleet) { f.Control.Last[0].No = 0 }))
	wantFleetBad(t, with(f, func(f *impl.Fleet) { f.Control = impl.Control{} }))
	for _, z := range badZones() {
		wantFleetBad(t, with(f, func(f *impl.Fleet) { f.Control.Zone = z }))
	}
	// Records that no edge and no diff knows of are the control's own matter.
	wantFleetGood(t, with(f, func(f *impl.Fleet) { f.Control.Zone = zoneOf("ex.com", 22, noteOf("b.ex.com", "x")) }))
	wantFleetBad(t, with(f, func(f *impl.Fleet) { f.Control.Zone.Records[0].Ttl = -1 }))
}

// A fleet that is good but for its apex is of no use to anyone.
func TestApexesOfFleets(t *testing.T) {
	for _, apex := range []string{"ex.com", "", "com", "a.ex.com", "ex.net", "EX.com", "ex.com.", "*"} {
		z := zoneOf(apex, 7)
		f := fleetAt(z, z)
		if apex == "ex.com" {
			wantFleetGood(t, f)
			continue
		}
		wantFleetBad(t, f)
	}
	f, z := fleetOf3(), zoneOf("com", 10)
	wantFleetBad(t, with(f, func(f *impl.Fleet) { f.Control.Zone = zoneOf("com", 22) }))
	wantFleetBad(t, with(f, func(f *impl.Fleet) { f.Journal.Apex = "com" }))
	wantFleetBad(t, with(f, func(f *impl.Fleet) { f.Journal.Apex = "" }))
	for edge := range 3 {
		wantFleetBad(t, with(f, func(f *impl.Fleet) { f.Edges[edge].Zone = z }))
		wantFleetBad(t, with(f, func(f *impl.Fleet) { f.Edges[edge].Saved = z }))
	}
	wantFleetBad(t, with(f, func(f *impl.Fleet) { f.Parcels[0].Zone = z }))
}

func TestJournalsOfFleets(t *testing.T) {
	f := fleetOf3()
	for many := range 13 {
		j := stepsOf(22, many)
		j.First, j.Diffs = 22+10*(12-many), stepsOf(22, 12).Diffs[12-many:]
		at := zoneOf("ex.com", 142)
		wantFleetGood(t, with(f, func(f *impl.Fleet) { f.Journal, f.Control.Zone = j, at }))
		for _, counter := range []int{141, 143, 132, 22} {
			wantFleetBad(t, with(f, func(f *impl.Fleet) { f.Journal, f.Control.Zone = j, zoneOf("ex.com", counter) }))
		}
	}
	wantFleetBad(t, with(f, func(f *impl.Fleet) { f.Journal, f.Control.Zone = stepsOf(22, 13), zoneOf("ex.com", 152) }))
	for _, j := range []impl.Journal{
		{}, {Apex: "ex.com"}, {Apex: "ex.com", First: 21}, {Apex: "ex.com", First: 23}, {Apex: "ex.com", First: -22},
		{Apex: "ex.com", First: 22, Diffs: []impl.Diff{diffOf(22, 22, nil, nil)}},
		{Apex: "ex.com", First: 23, Diffs: []impl.Diff{diffOf(23, 22, nil, nil)}},
		{Apex: "ex.com", First: 19, Diffs: []impl.Diff{diffOf(20, 22, nil, nil)}},
		{Apex: "ex.com", First: 19, Diffs: []impl.Diff{diffOf(19, 22, []impl.Record{{}}, nil)}},
		{Apex: "ex.com", First: 19, Diffs: []impl.Diff{diffOf(19, 20, nil, nil), diffOf(21, 22, nil, nil)}},
		{Apex: "ex.com", First: 19, Diffs: []impl.Diff{diffOf(19, 22, nil, nil), diffOf(22, 23, nil, nil)}},
	} {
		wantFleetBad(t, with(f, func(f *impl.Fleet) { f.Journal = j }))
	}
	for _, j := range []impl.Journal{{Apex: "ex.com", First: 22}, {Apex: "ex.com", First: 0, Diffs: []impl.Diff{diffOf(0, 22, nil, nil)}}} {
		wantFleetGood(t, with(f, func(f *impl.Fleet) { f.Journal = j }))
	}
}

func TestEdgesOfFleets(t *testing.T) {
	f := fleetOf3()
	f.Parcels = nil
	for many := 1; many <= 3; many++ {
		wantFleetGood(t, with(f, func(f *impl.Fleet) { f.Edges = f.Edges[:many] }))
	}
	for _, many := range []int{0, 4, 5, 300} {
		wantFleetBad(t, with(f, func(f *impl.Fleet) { f.Edges = slices.Repeat(f.Edges[:1], many) }))
	}
	for edge := range 3 {
		for _, counter := range []int{0, 1, 10, 21, 22} {
			z := zoneOf("ex.com", counter, noteOf("b.ex.com", "x"))
			wantFleetGood(t, with(f, func(f *impl.Fleet) { f.Edges[edge].Zone = z }))
			wantFleetGood(t, with(f, func(f *impl.Fleet) { f.Edges[edge].Saved = z }))
		}
		for _, z := range append(badZones(), zoneOf("ex.com", 23), zoneOf("ex.com", mostCounter), zoneOf("ex.com", -1), impl.Zone{Apex: "ex.com", Counter: 10}, atSerial("ex.com", 10, 11)) {
			wantFleetBad(t, with(f, func(f *impl.Fleet) { f.Edges[edge].Zone = z }))
			wantFleetBad(t, with(f, func(f *impl.Fleet) { f.Edges[edge].Saved = z }))
		}
	}
	// Nothing is asked of what is saved beside what is there.
	wantFleetGood(t, with(f, func(f *impl.Fleet) { f.Edges[0] = edgeAt(zoneOf("ex.com", 0), zoneOf("ex.com", 22)) }))
}

// atSerial is a zone of which the TypeSoa record tells another counter.
func atSerial(apex string, counter, serial int) impl.Zone {
	z := zoneOf(apex, serial)
	z.Counter = counter
	return z
}

func TestParcelsOfFleets(t *testing.T) {
	f := fleetOf3()
	for _, many := range []int{0, 1, 2, 6, 11, 12} {
		wantFleetGood(t, with(f, func(f *impl.Fleet) { f.Parcels = slices.Repeat(f.Parcels, 6)[:many] }))
	}
	for _, many := range []int{13, 14, 100} {
		wantFleetBad(t, with(f, func(f *impl.Fleet) { f.Parcels = slices.Repeat(f.Parcels, 50)[:many] }))
	}
	for at := range 2 {
		for to := range 3 {
			wantFleetGood(t, with(f, func(f *impl.Fleet) { f.Parcels[at].To = to }))
			wantFleetBad(t, with(f, func(f *impl.Fleet) { f.Parcels[at].To, f.Edges = to, f.Edges[:to] }))
		}
		for _, to := range append(wildInts(), -2, 3, 4, 12) {
			wantFleetBad(t, with(f, func(f *impl.Fleet) { f.Parcels[at].To = to }))
		}
		wantFleetBad(t, with(f, func(f *impl.Fleet) { f.Parcels[at].Whole = !f.Parcels[at].Whole }))
		wantFleetBad(t, with(f, func(f *impl.Fleet) { f.Parcels[at] = impl.Parcel{} }))
		wantFleetBad(t, with(f, func(f *impl.Fleet) { f.Parcels[at] = impl.Parcel{Whole: true} }))
	}
}

func TestWholeParcels(t *testing.T) {
	f := fleetOf3()
	put := func(p impl.Parcel) impl.Fleet {
		return with(f, func(f *impl.Fleet) { f.Parcels[0] = p })
	}
	for _, counter := range []int{0, 1, 10, 21, 22} {
		wantFleetGood(t, put(wholeTo(2, zoneOf("ex.com", counter, noteOf("b.ex.com", "x")))))
	}
	for _, z := range append(badZones(), zoneOf("ex.com", 23), zoneOf("ex.com", mostCounter), zoneOf("com", 7), atSerial("ex.com", 10, 11)) {
		wantFleetBad(t, put(wholeTo(2, z)))
	}
	p := wholeTo(2, zoneOf("ex.com", 19))
	for _, d := range []impl.Diff{{From: 1}, {To: 1}, {From: -1}, {Dels: make([]impl.Record, 1)}, {Adds: make([]impl.Record, 1)}, diffOf(19, 22, nil, nil), diffOf(0, 1, nil, nil), {Adds: []impl.Record{addressOf("a.ex.com", 1)}}, {Dels: []impl.Record{addressOf("a.ex.com", 1)}}} {
		p.Diff = d
		wantFleetBad(t, put(p))
	}
	// An empty list is no list.
	p.Diff = impl.Diff{Dels: []impl.Record{}, Adds: make([]impl.Record, 0, 5)}
	wantFleetGood(t, put(p))
}

func TestParcelsWithDiffs(t *testing.T) {
	f := fleetOf3()
	put := func(p impl.Parcel) impl.Fleet {
		return with(f, func(f *impl.Fleet) { f.Parcels[1] = p })
	}
	a, b := []impl.Record{addressOf("a.ex.com", 1)}, []impl.Record{addressOf("b.net", 1)}
	for _, d := range []impl.Diff{diffOf(0, 1, nil, nil), diffOf(0, 22, a, b), diffOf(21, 22, b, a), diffOf(10, 21, nil, a), diffOf(11, 12, a, nil)} {
		wantFleetGood(t, put(diffTo(1, d)))
	}
	for _, d := range []impl.Diff{
		{}, {From: 1}, diffOf(22, 22, nil, nil), diffOf(22, 21, nil, nil), diffOf(1, 0, nil, nil), diffOf(22, 0, a, b), diffOf(-1, 22, nil, nil), diffOf(math.MinInt, 0, nil, nil),
		diffOf(22, 23, nil, nil), diffOf(0, 23, nil, nil), diffOf(22, mostCounter, nil, nil), diffOf(22, mostCounter+1, nil, nil), diffOf(22, math.MaxInt, nil, nil),
		diffOf(19, 22, a, a), diffOf(19, 22, make([]impl.Record, 1), nil), diffOf(19, 22, nil, append(a, a...)), diffOf(19, 22, nil, addressesOf(41)),
	} {
		wantFleetBad(t, put(diffTo(1, d)))
	}
	p := diffTo(1, diffOf(19, 22, nil, nil))
	for _, z := range []impl.Zone{{Apex: "ex.com"}, {Counter: 1}, {Counter: -1}, {Records: make([]impl.Record, 1)}, zoneOf("ex.com", 19), zoneOf("", 0)} {
		p.Zone = z
		wantFleetBad(t, put(p))
	}
	p.Zone = impl.Zone{Records: []impl.Record{}}
	wantFleetGood(t, put(p))
}

func TestEdgesAtTheLastCounter(t *testing.T) {
	z, ahead := zoneOf("ex.com", mostCounter), zoneOf("ex.com", mostCounter-1)
	f := wantFleetGood(t, fleetAt(ahead, ahead, z))
	d := diffOf(mostCounter-1, mostCounter, []impl.Record{soaOf("ex.com", mostCounter-1)}, []impl.Record{soaOf("ex.com", mostCounter)})
	sent := wantDoneIn(t, f, sendStep(0), with(f, func(f *impl.Fleet) { f.Parcels = []impl.Parcel{diffTo(0, d)} }))
	wantDoneIn(t, sent, takeStep(0), with(f, func(f *impl.Fleet) { f.Edges[0].Zone = z }))
	wantLag(t, f, 1)
	wantLag(t, with(f, func(f *impl.Fleet) { f.Edges[0].Zone = zoneOf("ex.com", 0) }), mostCounter)
	// No batch is done any more: the control tells so, and there is nothing to follow.
	last := doneFor(1, 1, 4, 0)
	wantDoneIn(t, f, askStep(askedBy(1, 1)), with(f, func(f *impl.Fleet) { f.Control = controlWith(z, 1, last) }))
}

func TestAskedOfFleets(t *testing.T) {
	f := fleetOf3()
	b := addressOf("b.ex.com", 2)
	then := zoneOf("ex.com", 23, append(addressesOf(4), b)...)
	d, _ := wantDiffOf(f.Control.Zone, then)
	if !slices.Equal(d.Adds, inOrder(b, soaOf("ex.com", 23))) || !slices.Equal(d.Dels, []impl.Record{soaOf("ex.com", 22)}) {
		t.Fatal(shown(d))
	}
	done := doneFor(3, 6, 0, 23)
	wantDoneIn(t, f, askStep(askedBy(3, 6, add(b))), with(f, func(f *impl.Fleet) {
		f.Control = controlWith(then, 13, done)
		f.Journal.Diffs = append(f.Journal.Diffs, d)
	}))
	// A batch that changes no record makes a version as well.
	wantDoneIn(t, f, askStep(askedBy(3, 6)), with(f, func(f *impl.Fleet) {
		f.Control = controlWith(atCounter(f.Control.Zone, 23), 13, done)
		f.Journal.Diffs = append(f.Journal.Diffs, diffOf(22, 23, []impl.Record{soaOf("ex.com", 22)}, []impl.Record{soaOf("ex.com", 23)}))
	}))
	// What was told before is told again; the changes don't matter.
	for _, l := range [][]impl.Change{nil, {add(b)}, {{}}} {
		wantDoneIn(t, f, askStep(askedBy(3, 5, l...)), f)
	}
	// What is not done is the last of its client, and no version.
	for code, l := range [][]impl.Change{1: {{}}, 2: {has(b)}, 3: {add(addressOf("ex.net", 1))}} {
		if code > 0 {
			wantDoneIn(t, f, askStep(askedBy(3, 6, l...)), with(f, func(f *impl.Fleet) { f.Control = controlWith(f.Control.Zone, 13, doneFor(3, 6, code, 22)) }))
			wantDoneIn(t, f, askStep(askedBy(9, 1, l...)), with(f, func(f *impl.Fleet) {
				f.Control = controlWith(f.Control.Zone, 13, doneFor(3, 5, 2, 6), doneFor(9, 1, code, 22))
			}))
		}
	}
	for _, a := range []impl.Asked{askedBy(3, 4), askedBy(3, 4, add(b)), askedBy(-1, 1, add(b)), askedBy(101, 1, add(b)), askedBy(3, 0), askedBy(3, 1001), {}} {
		wantNotDoneIn(t, f, askStep(a))
	}
	wantNotDoneIn(t, with(f, func(f *impl.Fleet) { f.Control.Many = 1000000 }), askStep(askedBy(3, 6, add(b))))
	wantNotDoneIn(t, with(f, func(f *impl.Fleet) { f.Control.Last = clientsTo(8) }), askStep(askedBy(3, 1, add(b))))
}

// A journal that is full gives its first diff away, and an edge there is too far behind then.
func TestAskedOfAFullJournal(t *testing.T) {
	v := versionsUp(13)
	f := wantFleetGood(t, fleetAt(v[0], v...))
	then := atCounter(v[12], 47)
	d, _ := wantDiffOf(v[12], then)
	want := with(f, func(f *impl.Fleet) {
		f.Control = controlWith(then, 1, doneFor(1, 1, 0, 47))
		f.Journal.First, f.Journal.Diffs = 13, append(f.Journal.Diffs[1:], d)
	})
	wantDoneIn(t, f, sendStep(0), with(f, func(f *impl.Fleet) { f.Parcels = []impl.Parcel{diffTo(0, f.Journal.Diffs[0])} }))
	behind := wantDoneIn(t, f, askStep(askedBy(1, 1)), want)
	wantNotDoneIn(t, behind, sendStep(0))
	wantSettledTo(t, behind, 1, then)
	wantSettledTo(t, f, 12, v[12])
	// Neither what is told again nor what is not done takes a diff away.
	wantDoneIn(t, behind, askStep(askedBy(1, 1)), behind)
	wantDoneIn(t, behind, askStep(askedBy(1, 2, impl.Change{})), with(behind, func(f *impl.Fleet) { f.Control = controlWith(then, 2, doneFor(1, 2, 1, 47)) }))
	wantDoneIn(t, wantFleetGood(t, fleetAt(v[1], v[1:]...)), askStep(askedBy(1, 1)), with(want, func(f *impl.Fleet) { f.Edges[0] = edgeAt(v[1], v[1]) }))
}

func TestDiffsThatAreSent(t *testing.T) {
	f := fleetOf3()
	j := f.Journal
	behind := func(p impl.Parcel) impl.Fleet {
		return with(f, func(f *impl.Fleet) { f.Parcels = append(f.Parcels, p) })
	}
	wantDoneIn(t, f, sendStep(1), behind(diffTo(1, j.Diffs[2])))
	// Up to date, and too far behind.
	wantNotDoneIn(t, f, sendStep(0), sendStep(2))
	for edge := range 3 {
		for at, d := range j.Diffs {
			f = with(f, func(f *impl.Fleet) { f.Edges[edge].Zone = zoneOf("ex.com", d.From, noteOf("b.ex.com", "x")) })
			wantDoneIn(t, f, sendStep(edge), behind(diffTo(edge, j.Diffs[at])))
		}
		// Counters at which no diff begins.
		for _, counter := range []int{0, 10, 12, 14, 15, 17, 21, 22} {
			wantNotDoneIn(t, with(f, func(f *impl.Fleet) { f.Edges[edge].Zone = zoneOf("ex.com", counter) }), sendStep(edge))
		}
	}
	// What is saved does not count.
	f = with(fleetOf3(), func(f *impl.Fleet) { f.Edges[0].Saved = zoneOf("ex.com", 13) })
	wantNotDoneIn(t, f, sendStep(0))
	// The same diff may be sent any number of times, even while it is on the way.
	f.Parcels = nil
	for many := 1; many <= 12; many++ {
		f = wantDoneIn(t, f, sendStep(1), with(f, func(f *impl.Fleet) { f.Parcels = append(f.Parcels, diffTo(1, j.Diffs[2])) }))
	}
	wantNotDoneIn(t, f, sendStep(0), sendStep(1), sendStep(2))
	f.Journal = impl.Journal{Apex: "ex.com", First: 22}
	f.Parcels = nil
	wantNotDoneIn(t, f, sendStep(0), sendStep(1), sendStep(2))
}

func TestWholeZonesThatAreSent(t *testing.T) {
	f := fleetOf3()
	newest := versionsUp(5)[4]
	for edge := range 3 {
		f := wantDoneIn(t, f, wholeStep(edge), with(f, func(f *impl.Fleet) { f.Parcels = append(f.Parcels, wholeTo(edge, newest)) }))
		for many := 4; many <= 12; many++ {
			f = wantDoneIn(t, f, wholeStep(edge), with(f, func(f *impl.Fleet) { f.Parcels = append(f.Parcels, wholeTo(edge, newest)) }))
		}
		wantNotDoneIn(t, f, wholeStep(0), wholeStep(1), wholeStep(2))
	}
	// It is the zone that the control has by now, whatever the journal tells.
	f.Journal = impl.Journal{Apex: "ex.com", First: 22}
	f.Control.Zone = zoneOf("ex.com", 22, noteOf("b.ex.com", "x"))
	wantDoneIn(t, f, wholeStep(2), with(f, func(f *impl.Fleet) { f.Parcels = append(f.Parcels, wholeTo(2, f.Control.Zone)) }))
}

// The parcel leaves, be it of use or not.
func TestDiffsThatAreTaken(t *testing.T) {
	v := versionsUp(5)
	f := fleetAt(v[2], v...)
	f.Edges = append(f.Edges, edgeAt(v[0], v[0]))
	brought := func(p impl.Parcel) impl.Fleet {
		return with(f, func(f *impl.Fleet) {
			f.Parcels = []impl.Parcel{wholeTo(1, v[1]), p, wholeTo(1, v[1])}
		})
	}
	left := func(z impl.Zone) impl.Fleet {
		return with(f, func(f *impl.Fleet) {
			f.Parcels = []impl.Parcel{wholeTo(1, v[1]), wholeTo(1, v[1])}
			f.Edges[0].Zone = z
		})
	}
	d := f.Journal.Diffs
	wantDoneIn(t, brought(diffTo(0, d[2])), takeStep(1), left(v[3]))
	// Late, or twice; ahead of another one.
	for _, at := range []int{0, 1, 3} {
		wantDoneIn(t, brought(diffTo(0, d[at])), takeStep(1), left(v[2]))
	}
	wantDoneIn(t, brought(diffTo(0, diffOf(16, 22, d[2].Dels, []impl.Record{soaOf("ex.com", 22)}))), takeStep(1), left(atCounter(v[2], 22)))
	for _, none := range []impl.Diff{
		diffOf(16, 22, nil, nil), diffOf(16, 22, nil, []impl.Record{soaOf("ex.com", 22)}), diffOf(16, 22, []impl.Record{soaOf("ex.com", 16)}, nil),
		diffOf(16, 22, d[2].Dels, []impl.Record{soaOf("ex.com", 21)}), diffOf(16, 19, d[2].Adds, d[2].Dels),
		diffOf(16, 19, d[2].Dels, inOrder(soaOf("ex.com", 19), addressesOf(1)[0])), diffOf(15, 19, d[2].Dels, d[2].Adds), diffOf(17, 19, d[2].Dels, d[2].Adds),
	} {
		wantDoneIn(t, brought(diffTo(0, none)), takeStep(1), left(v[2]))
	}
	// The edge that the parcel is to takes it, not another one.
	wantDoneIn(t, brought(diffTo(1, d[0])), takeStep(1), with(left(v[2]), func(f *impl.Fleet) { f.Edges[1].Zone = v[1] }))
	wantDoneIn(t, brought(diffTo(1, d[2])), takeStep(1), left(v[2]))
}

func TestWholeZonesThatAreTaken(t *testing.T) {
	v := versionsUp(5)
	f := fleetAt(v[2], v...)
	f.Edges = append(f.Edges, edgeAt(v[0], v[0]))
	brought := func(p impl.Parcel) impl.Fleet {
		return with(f, func(f *impl.Fleet) { f.Parcels = []impl.Parcel{p, diffTo(0, f.Journal.Diffs[2])} })
	}
	left := func(a, b impl.Zone) impl.Fleet {
		return with(f, func(f *impl.Fleet) {
			f.Parcels = []impl.Parcel{diffTo(0, f.Journal.Diffs[2])}
			f.Edges[0].Zone, f.Edges[1].Zone = a, b
		})
	}
	for at, z := range v {
		wantDoneIn(t, brought(wholeTo(0, z)), takeStep(0), left(v[max(at, 2)], v[0]))
		wantDoneIn(t, brought(wholeTo(1, z)), takeStep(0), left(v[2], z))
	}
	note := noteOf("b.ex.com", "x")
	// One that is as old is nothing, even with other records.
	for counter, then := range map[int]impl.Zone{0: v[2], 15: v[2], 16: v[2], 17: zoneOf("ex.com", 17, note), 22: zoneOf("ex.com", 22, note)} {
		wantDoneIn(t, brought(wholeTo(0, zoneOf("ex.com", counter, note))), takeStep(0), left(then, v[0]))
	}
	// What is saved counts for nothing.
	f.Edges[0].Saved = v[4]
	wantDoneIn(t, brought(wholeTo(0, v[3])), takeStep(0), left(v[3], v[0]))
}

func TestParcelsThatAreLostOrDoubled(t *testing.T) {
	f := fleetOf3()
	p, q := f.Parcels[0], f.Parcels[1]
	holding := func(l ...impl.Parcel) impl.Fleet {
		return with(f, func(f *impl.Fleet) { f.Parcels = l })
	}
	wantDoneIn(t, holding(p, q, p), loseStep(0), holding(q, p))
	wantDoneIn(t, holding(p, q, p), loseStep(1), holding(p, p))
	wantDoneIn(t, holding(p, q, p), loseStep(2), holding(p, q))
	wantDoneIn(t, holding(p), loseStep(0), holding())
	wantDoneIn(t, holding(p, q), twiceStep(0), holding(p, q, p))
	wantDoneIn(t, holding(p, q), twiceStep(1), holding(p, q, q))
	wantDoneIn(t, holding(q), twiceStep(0), holding(q, q))
	eleven := append(slices.Repeat([]impl.Parcel{p}, 10), q)
	for k, last := range map[int]impl.Parcel{0: p, 9: p, 10: q} {
		wantDoneIn(t, holding(eleven...), twiceStep(k), holding(append(slices.Clone(eleven), last)...))
	}
	twelve := append(slices.Clone(eleven), p)
	for k := range 12 {
		wantNotDoneIn(t, holding(twelve...), twiceStep(k))
		wantDoneIn(t, holding(twelve...), loseStep(k), holding(slices.Concat(twelve[:k], twelve[k+1:])...))
	}
}

func TestParcelsThatThereAreNot(t *testing.T) {
	f := fleetOf3()
	for many := range 13 {
		f := with(f, func(f *impl.Fleet) { f.Parcels = slices.Repeat(f.Parcels, 6)[:many] })
		for _, k := range append(wildInts(), -2, many, many+1, 12, 13) {
			wantNotDoneIn(t, f, takeStep(k), loseStep(k), twiceStep(k))
		}
	}
}

func TestEdgesThatAreSavedAndCrash(t *testing.T) {
	f := fleetOf3()
	for edge := range 3 {
		at := f.Edges[edge]
		wantDoneIn(t, f, saveStep(edge), with(f, func(f *impl.Fleet) { f.Edges[edge].Saved = at.Zone }))
		wantDoneIn(t, f, crashStep(edge), with(f, func(f *impl.Fleet) { f.Edges[edge].Zone = at.Saved }))
	}
	// Where both are the same already it can be done all the same; what was saved may be newer, too.
	a, b := zoneOf("ex.com", 10), zoneOf("ex.com", 22, noteOf("b.ex.com", "x"))
	for _, e := range []impl.Edge{edgeAt(a, a), edgeAt(b, b), edgeAt(a, b), edgeAt(b, a)} {
		f := with(f, func(f *impl.Fleet) { f.Edges[1] = e })
		wantDoneIn(t, f, saveStep(1), with(f, func(f *impl.Fleet) { f.Edges[1].Saved = e.Zone }))
		wantDoneIn(t, f, crashStep(1), with(f, func(f *impl.Fleet) { f.Edges[1].Zone = e.Saved }))
	}
}

func TestEdgesThatThereAreNot(t *testing.T) {
	for many := 1; many <= 3; many++ {
		f := fleetOf3()
		f.Edges, f.Parcels = f.Edges[:many], nil
		for i := range f.Edges {
			f.Edges[i].Zone = zoneOf("ex.com", 13)
		}
		wantFleetGood(t, f)
		for _, edge := range append(wildInts(), -2, many, many+1, 3, 4) {
			wantNotDoneIn(t, f, sendStep(edge), wholeStep(edge), crashStep(edge), saveStep(edge))
			wantNoLag(t, f, edge)
			wantNothingAt(t, f, edge, "ex.com", 6, 0)
		}
	}
}

func TestKindsOfStepsThatAreNone(t *testing.T) {
	f := fleetOf3()
	for _, kind := range append(wildInts(), 0, -2, 9, 10, 16, 64, 256+1) {
		for at := range 3 {
			wantNotDoneIn(t, f, impl.EdgeStep{Kind: kind, Edge: at, K: at, Asked: askedBy(3, 6)})
		}
		wantFleetPlayed(t, 2, []impl.EdgeStep{{Kind: kind}, askStep(addAsked(1)), {Kind: kind, Asked: addAsked(2)}}, "-+-")
	}
}

// A step has more than its kind asks for: what it does not ask for does not count.
func TestWhatStepsDoNotAskFor(t *testing.T) {
	f := with(fleetOf3(), func(f *impl.Fleet) { f.Edges[0].Zone = zoneOf("ex.com", 13) })
	for _, s := range []impl.EdgeStep{askStep(askedBy(3, 6)), sendStep(1), takeStep(1), loseStep(1), twiceStep(1), wholeStep(1), crashStep(0), saveStep(0)} {
		want, ok := impl.StepFleet(f, s)
		if !ok {
			t.Errorf("StepFleet(%s, %v) is not done", shown(f), s)
		}
		for _, n := range append(wildInts(), 0, 1, 2, 3, 12) {
			other := s
			switch s.Kind {
			case 1:
				other.Edge, other.K = n, n
			case 3, 4, 5:
				other.Edge, other.Asked = n, askedBy(n, n, impl.Change{Kind: n})
			default:
				other.K, other.Asked = n, askedBy(n, n, impl.Change{Kind: n})
			}
			wantDoneIn(t, f, other, want)
		}
	}
}

// playedVersions are those that addAsked makes, from NewFleet on.
func playedVersions(many int) []impl.Zone {
	var versions []impl.Zone
	var l []impl.Record
	for i := range many {
		if i > 0 {
			l = append(l, addressOf("a.ex.com", i))
		}
		versions = append(versions, zoneOf("ex.com", i, l...))
	}
	return versions
}

func TestFleetsPlayedByHand(t *testing.T) {
	v := playedVersions(4)
	row := []impl.EdgeStep{
		sendStep(0), askStep(addAsked(1)), askStep(addAsked(1)), askStep(askedBy(2, 1, has(addressOf("b.ex.com", 1)))), askStep(addAsked(2)),
		sendStep(0), sendStep(0), wholeStep(1), twiceStep(1), takeStep(0), sendStep(0),
		takeStep(4), takeStep(3), saveStep(0), takeStep(0), askStep(addAsked(3)), sendStep(0),
		sendStep(3), takeStep(3), loseStep(-1), takeStep(0), loseStep(0), crashStep(1), twiceStep(0), takeStep(1), crashStep(0),
	}
	f := wantFleetPlayed(t, 2, row, "-++++++++++-+++++---++++++")
	d, _ := wantDiffOf(v[2], v[3])
	want := impl.Fleet{
		Control: controlWith(v[3], 4, doneFor(1, 3, 0, 3), doneFor(2, 1, 2, 1)),
		Journal: journalOf(v...),
		Edges:   []impl.Edge{edgeAt(v[2], v[2]), edgeAt(v[0], v[0])},
		Parcels: []impl.Parcel{diffTo(0, d)},
	}
	if !alikeFleets(f, want) {
		t.Errorf("PlayFleet(2, %s) = %s; want %s", shown(row), shown(f), shown(want))
	}
	wantLag(t, f, 1, 3)
	wantSettledTo(t, f, 4, v[3], v[3])
	// The last step ahead of the crash had come to the last version.
	before := wantFleetPlayed(t, 2, row[:len(row)-1], "-++++++++++-+++++---+++++")
	wantLag(t, before, 0, 3)
	wantSettledTo(t, before, 3, v[3], v[3])
}

func TestHowManyStepsThereMayBe(t *testing.T) {
	for _, many := range []int{0, 1, 119, 120} {
		var row []impl.EdgeStep
		signs := ""
		for i := range many {
			row = append(row, askStep(askedBy(i%8, 1+i/8)))
			signs += "+"
		}
		f := wantFleetPlayed(t, 3, row, signs)
		wantLag(t, f, many, many, many)
		if f.Control.Many != many || f.Journal.First != max(0, many-12) {
			t.Error(many, shown(f))
		}
		// One that can't be done counts as well.
		none := make([]impl.EdgeStep, many)
		fresh, _ := impl.NewFleet(1)
		if f := wantFleetPlayed(t, 1, none, signsOf(make([]bool, many))); !alikeFleets(f, fresh) {
			t.Errorf("PlayFleet(1) of %d steps that are none = %s", many, shown(f))
		}
	}
	for _, many := range []int{121, 122, 1000, 1 << 16} {
		wantFleetNotPlayed(t, 1, make([]impl.EdgeStep, many)...)
		wantFleetNotPlayed(t, 3, slices.Repeat([]impl.EdgeStep{saveStep(0)}, many)...)
	}
	for _, edges := range []int{0, 4, -1} {
		wantFleetNotPlayed(t, edges, make([]impl.EdgeStep, 121)...)
	}
}

// What can't be done in the middle leaves the fleet as it is: the others are done as if it were not there.
func TestStepsInTheMiddleThatCanNotBeDone(t *testing.T) {
	row := []impl.EdgeStep{askStep(addAsked(1)), sendStep(0), wholeStep(1), takeStep(1), askStep(addAsked(2)), saveStep(1), takeStep(0), sendStep(0)}
	want := wantFleetPlayed(t, 2, row, "++++++++")
	for _, none := range []impl.EdgeStep{{}, {Kind: 9}, askStep(impl.Asked{}), askStep(askedBy(-1, 5, add(addressOf("c.ex.com", 1)))), sendStep(2), takeStep(12), loseStep(-1), twiceStep(5), wholeStep(-1), crashStep(2), saveStep(3)} {
		for at := range len(row) + 1 {
			signs := []byte("+++++++++")
			signs[at] = '-'
			if f := wantFleetPlayed(t, 2, slices.Insert(slices.Clone(row), at, none), string(signs)); !alikeFleets(f, want) {
				t.Errorf("%v, which can't be done, in the place %d makes of %s %s", none, at, shown(want), shown(f))
			}
		}
	}
}

// What is played is what comes of step by step.
func TestPlayedAndSteppedAlike(t *testing.T) {
	row := []impl.EdgeStep{askStep(addAsked(1)), sendStep(0), twiceStep(0), sendStep(7), takeStep(0), saveStep(0), askStep(addAsked(2)), askStep(addAsked(1)), wholeStep(1), takeStep(1), crashStep(1), loseStep(0), sendStep(0)}
	f, _ := impl.NewFleet(2)
	signs := ""
	for i, s := range row {
		then, ok := impl.StepFleet(f, s)
		if ok {
			f = then
		}
		signs += signsOf([]bool{ok})
		if played := wantFleetPlayed(t, 2, row[:i+1], signs); !alikeFleets(played, f) {
			t.Errorf("PlayFleet(2, %s) = %s; step by step %s", shown(row[:i+1]), shown(played), shown(f))
		}
	}
}

func TestAnswersOfEdges(t *testing.T) {
	f := fleetOf3()
	f.Edges[0].Zone = zoneOf("ex.com", 19, addressOf("a.ex.com", 1), hostOf("c.ex.com", 5, "x.com"), hostOf("d.ex.com", 2, "ns.com"), noteOf("*.s.ex.com", "x"))
	wantFleetGood(t, f)
	for name, want := range map[string]impl.Found{
		"a.ex.com":     {Kind: 1, Owner: "a.ex.com", Records: list(addressOf("a.ex.com", 1))},
		"c.ex.com":     {Kind: 2, Owner: "c.ex.com", Records: list(hostOf("c.ex.com", 5, "x.com"))},
		"x.d.ex.com":   {Kind: 3, Owner: "d.ex.com", Records: list(hostOf("d.ex.com", 2, "ns.com"))},
		"ex.com":       {Kind: 4, Owner: "ex.com"},
		"x.s.ex.com":   {Kind: 4, Owner: "*.s.ex.com"},
		"x.a.ex.com":   {Kind: 5, Owner: "a.ex.com"},
		"ex.net":       {Kind: 6},
		"a.a.a.ex.com": {Kind: 5, Owner: "a.ex.com"},
	} {
		for _, least := range []int{math.MinInt, -1, 0, 1, 18, 19} {
			wantToldAt(t, f, 0, name, 1, least, want)
		}
		for _, least := range []int{20, 22, 23, mostCounter, mostCounter + 1, math.MaxInt} {
			wantTooOldAt(t, f, 0, name, 1, least)
		}
	}
}

// Each edge answers by what it has itself, not by what it saved nor by what the control has.
func TestAnswersOfEachEdge(t *testing.T) {
	f := fleetOf3()
	for edge, counter := range []int{22, 19, 10} {
		soa := impl.Found{Kind: 1, Owner: "ex.com", Records: list(soaOf("ex.com", counter))}
		for _, least := range append(wildInts(), 0, counter-1, counter) {
			if least <= counter {
				wantToldAt(t, f, edge, "ex.com", 6, least, soa)
			}
		}
		wantTooOldAt(t, f, edge, "ex.com", 6, counter+1)
		wantTooOldAt(t, f, edge, "ex.com", 6, math.MaxInt)
	}
	last := addressesOf(4)[3]
	wantToldAt(t, f, 0, last.Name, last.Type, 22, impl.Found{Kind: 1, Owner: last.Name, Records: list(last)})
	wantToldAt(t, f, 1, last.Name, last.Type, 19, impl.Found{Kind: 5, Owner: "ex.com"})
}

// Where nothing can be looked up nothing is told, be the edge too far behind or not.
func TestAnswersThatAreNone(t *testing.T) {
	f := fleetOf3()
	for _, least := range []int{math.MinInt, 0, 19, 20, math.MaxInt} {
		for _, name := range badNames() {
			wantNothingAt(t, f, 1, name, 1, least)
		}
		for _, kind := range append(wildInts(), 0, 3, 4, 7, 14, 17, 255) {
			wantNothingAt(t, f, 1, "ex.com", kind, least)
		}
		// The TypeSoa record is at the apex alone.
		for _, name := range []string{"", "com", "a.ex.com", "ex.net"} {
			wantNothingAt(t, f, 1, name, 6, least)
		}
		for _, edge := range append(wildInts(), 3, 4) {
			wantNothingAt(t, f, edge, "ex.com", 1, least)
		}
	}
}

func TestLagsOfEdges(t *testing.T) {
	f := fleetOf3()
	wantLag(t, f, 0, 3, 12)
	for counter := range 23 {
		z := zoneOf("ex.com", counter)
		wantLag(t, with(f, func(f *impl.Fleet) { f.Edges[1].Zone = z }), 0, 22-counter, 12)
		// What is saved or on the way does not count.
		wantLag(t, with(f, func(f *impl.Fleet) { f.Edges[1].Saved, f.Parcels[0].Zone = z, z }), 0, 3, 12)
	}
	for many := 1; many <= 3; many++ {
		f := with(f, func(f *impl.Fleet) { f.Edges, f.Parcels = f.Edges[:many], nil })
		wantLag(t, f, []int{0, 3, 12}[:many]...)
	}
}

func TestFleetsThatAreSettled(t *testing.T) {
	v := versionsUp(5)
	f := fleetOf3()
	// None to catch up, one diff, and too far behind.
	wantSettledTo(t, f, 2, v[4], v[4], v[4])
	settled, _, _ := impl.SettleFleet(f)
	wantSettledTo(t, settled, 0, v[4], v[4], v[4])
	for at, used := range []int{1, 3, 2, 1, 0} {
		wantSettledTo(t, with(f, func(f *impl.Fleet) { f.Edges[0].Zone = v[at] }), used+2, v[4], v[4], v[4])
	}
	// At a counter that is known, but with records that the first or a later diff does not fit: the whole zone, and that is one.
	note := noteOf("b.ex.com", "x")
	for _, z := range []impl.Zone{zoneOf("ex.com", 13, append(addressesOf(4), note)...), atCounter(v[4], 16), atCounter(v[0], 12), zoneOf("ex.com", 19, addressesOf(4)...)} {
		wantSettledTo(t, with(f, func(f *impl.Fleet) { f.Edges[2].Zone = z }), 2, v[4], v[4], v[4])
	}
	// One that has other records and is put right by no diff keeps these: nobody tells that it does.
	z := zoneOf("ex.com", 13, append(addressesOf(1), note)...)
	then := zoneOf("ex.com", 22, append(addressesOf(4), note)...)
	wantSettledTo(t, with(f, func(f *impl.Fleet) { f.Edges[2].Zone = z }), 4, v[4], v[4], then)
	wantSettledTo(t, with(f, func(f *impl.Fleet) { f.Edges[2].Zone = zoneOf("ex.com", 22, note) }), 1, v[4], v[4], zoneOf("ex.com", 22, note))
	// With 12 diffs to each of three edges.
	v = versionsUp(13)
	f = fleetAt(v[0], v...)
	f.Edges = slices.Repeat(f.Edges, 3)
	wantSettledTo(t, f, 36, v[12], v[12], v[12])
	f.Journal = impl.Journal{Apex: "ex.com", First: v[12].Counter}
	wantSettledTo(t, f, 3, v[12], v[12], v[12])
}

// What is on the way is gone behind SettleFleet, and is not taken by it.
func TestSettledWithParcelsOnTheWay(t *testing.T) {
	v := versionsUp(5)
	for _, many := range []int{0, 1, 11, 12} {
		f := with(fleetOf3(), func(f *impl.Fleet) {
			f.Edges = f.Edges[:1]
			f.Edges[0].Zone = v[1]
			f.Parcels = slices.Repeat([]impl.Parcel{wholeTo(0, v[4])}, many)
		})
		wantSettledTo(t, f, 3, v[4])
	}
}

// wantVersionsThatWere is of promise 17: each zone in the fleet is one that the control had.
func wantVersionsThatWere(t *testing.T, f impl.Fleet, versions []impl.Zone) {
	t.Helper()
	were := func(z impl.Zone) {
		t.Helper()
		if !slices.ContainsFunc(versions, func(v impl.Zone) bool { return alikeZones(v, z) }) {
			t.Errorf("%s in %s never was a version", shown(z), shown(f))
		}
	}
	for _, e := range f.Edges {
		were(e.Zone)
		were(e.Saved)
	}
	for _, p := range f.Parcels {
		if p.Whole {
			were(p.Zone)
		}
	}
	if !alikeZones(f.Control.Zone, versions[len(versions)-1]) {
		t.Errorf("%s has not the last version, %s", shown(f), shown(versions[len(versions)-1]))
	}
}

// wantAllCome is of promise 17: behind SettleFleet each edge has the control's zone, and nothing is on the way.
func wantAllCome(t *testing.T, f impl.Fleet) {
	t.Helper()
	settled, _, ok := impl.SettleFleet(f)
	if len(settled.Parcels) != 0 || len(settled.Edges) != len(f.Edges) || !ok {
		t.Errorf("SettleFleet(%s) = %s, %v", shown(f), shown(settled), ok)
	}
	for edge, e := range settled.Edges {
		if lag, ok := impl.LagOf(settled, edge); !alikeZones(e.Zone, f.Control.Zone) || lag != 0 || !ok {
			t.Errorf("behind SettleFleet the edge %d has %s, with a lag of %d; the control has %s", edge, shown(e.Zone), lag, shown(f.Control.Zone))
		}
	}
}
