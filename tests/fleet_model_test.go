package tests

import (
	"math/rand"
	"slices"

	"loop.example/g00300/impl"
)

// The model has its own numbers, so that the program's constants are asked for, too.
const (
	mostEdges     = 3
	mostEdgeSteps = 120
	mostOnTheWay  = 12
	apexOfFleets  = "ex.com"
)

func askStep(a impl.Asked) impl.EdgeStep { return impl.EdgeStep{Kind: 1, Asked: a} }
func sendStep(edge int) impl.EdgeStep    { return impl.EdgeStep{Kind: 2, Edge: edge} }
func takeStep(k int) impl.EdgeStep       { return impl.EdgeStep{Kind: 3, K: k} }
func loseStep(k int) impl.EdgeStep       { return impl.EdgeStep{Kind: 4, K: k} }
func twiceStep(k int) impl.EdgeStep      { return impl.EdgeStep{Kind: 5, K: k} }
func wholeStep(edge int) impl.EdgeStep   { return impl.EdgeStep{Kind: 6, Edge: edge} }
func crashStep(edge int) impl.EdgeStep   { return impl.EdgeStep{Kind: 7, Edge: edge} }
func saveStep(edge int) impl.EdgeStep    { return impl.EdgeStep{Kind: 8, Edge: edge} }

func edgeAt(z, saved impl.Zone) impl.Edge { return impl.Edge{Zone: z, Saved: saved} }

func wholeTo(edge int, z impl.Zone) impl.Parcel {
	return impl.Parcel{To: edge, Whole: true, Zone: z}
}

func diffTo(edge int, d impl.Diff) impl.Parcel {
	return impl.Parcel{To: edge, Diff: d}
}

func wantFleetZone(z impl.Zone, newest int) bool {
	return wantGoodZone(z) && z.Apex == apexOfFleets && z.Counter <= newest
}

func wantGoodParcel(p impl.Parcel, edges, newest int) bool {
	if p.To < 0 || p.To >= edges {
		return false
	}
	if p.Whole {
		return wantFleetZone(p.Zone, newest) && alikeDiff(p.Diff, impl.Diff{})
	}
	return wantGoodDiff(p.Diff) && p.Diff.From <= p.Diff.To && p.Diff.To <= newest && alikeZones(p.Zone, impl.Zone{})
}

func wantGoodFleet(f impl.Fleet) bool {
	newest := f.Control.Zone.Counter
	if !wantGoodControl(f.Control) || f.Control.Zone.Apex != apexOfFleets || !wantGoodJournal(f.Journal) || f.Journal.Apex != apexOfFleets {
		return false
	}
	stops := wantStops(f.Journal)
	if stops[len(stops)-1] != newest || len(f.Edges) < 1 || len(f.Edges) > mostEdges || len(f.Parcels) > mostOnTheWay {
		return false
	}
	for _, e := range f.Edges {
		if !wantFleetZone(e.Zone, newest) || !wantFleetZone(e.Saved, newest) {
			return false
		}
	}
	return !slices.ContainsFunc(f.Parcels, func(p impl.Parcel) bool { return !wantGoodParcel(p, len(f.Edges), newest) })
}

// wantAskedIn tells the fleet behind what is asked.
func wantAskedIn(f impl.Fleet, a impl.Asked) (impl.Fleet, bool) {
	then, _, ok := wantTakeAsked(f.Control, a)
	if d, unlike := wantDiffOf(f.Control.Zone, then.Zone); ok && unlike {
		f.Journal, _ = wantPutDiff(f.Journal, d)
	}
	f.Control = then
	return f, ok
}

// wantSent tells the parcels behind one that is sent to an edge that there is.
func wantSent(f impl.Fleet, s impl.EdgeStep) []impl.Parcel {
	if s.Kind == 6 {
		return append(slices.Clone(f.Parcels), wholeTo(s.Edge, f.Control.Zone))
	}
	l, _ := wantDiffsFrom(f.Journal, f.Edges[s.Edge].Zone.Counter)
	for _, d := range l {
		return append(slices.Clone(f.Parcels), diffTo(s.Edge, d))
	}
	return nil
}

// wantZoneBy tells what an edge with this zone has behind a parcel.
func wantZoneBy(p impl.Parcel, z impl.Zone) impl.Zone {
	if p.Whole && p.Zone.Counter > z.Counter {
		return p.Zone
	}
	if then, ok := wantApplied(z, p.Diff); ok && !p.Whole {
		return then
	}
	return z
}

// wantAtEdge is for an edge that there is.
func wantAtEdge(f impl.Fleet, s impl.EdgeStep) (impl.Fleet, bool) {
	edge := &f.Edges[s.Edge]
	switch s.Kind {
	case 7:
		edge.Zone = edge.Saved
	case 8:
		edge.Saved = edge.Zone
	default:
		l := wantSent(f, s)
		if len(l) == 0 || len(l) > mostOnTheWay {
			return impl.Fleet{}, false
		}
		f.Parcels = l
	}
	return f, true
}

// wantOfParcel is for a parcel that there is.
func wantOfParcel(f impl.Fleet, s impl.EdgeStep) (impl.Fleet, bool) {
	p := f.Parcels[s.K]
	if s.Kind == 5 {
		f.Parcels = append(slices.Clone(f.Parcels), p)
		return f, len(f.Parcels) <= mostOnTheWay
	}
	f.Parcels = slices.Concat(f.Parcels[:s.K], f.Parcels[s.K+1:])
	if s.Kind == 3 {
		f.Edges[p.To].Zone = wantZoneBy(p, f.Edges[p.To].Zone)
	}
	return f, true
}

func wantStepFleet(f impl.Fleet, s impl.EdgeStep) (then impl.Fleet, ok bool) {
	if !wantGoodFleet(f) {
		return impl.Fleet{}, false
	}
	f.Edges = slices.Clone(f.Edges)
	switch s.Kind {
	case 1:
		then, ok = wantAskedIn(f, s.Asked)
	case 2, 6, 7, 8:
		if s.Edge >= 0 && s.Edge < len(f.Edges) {
			then, ok = wantAtEdge(f, s)
		}
	case 3, 4, 5:
		if s.K >= 0 && s.K < len(f.Parcels) {
			then, ok = wantOfParcel(f, s)
		}
	}
	if !ok {
		return impl.Fleet{}, false
	}
	return then, true
}

// bringing is a parcel in a fleet in which all zones are versions that were: it is known by the version that it leads to.
type bringing struct {
	to      int
	whole   bool
	version int
}

// follow is a fleet that was played: its edges are known by the versions that they have. The version N has the Counter N.
type follow struct {
	control    impl.Control
	versions   []impl.Zone
	now, saved []int
	way        []bringing
}

func newFollow(edges int) *follow {
	c, _ := wantNewControl(apexOfFleets)
	return &follow{control: c, versions: []impl.Zone{c.Zone}, now: make([]int, edges), saved: make([]int, edges)}
}

func (m *follow) last() int { return len(m.versions) - 1 }

func (m *follow) first() int { return max(0, m.last()-mostInJournal) }

func (m *follow) ask(a impl.Asked) bool {
	then, _, ok := wantTakeAsked(m.control, a)
	if ok {
		m.control = then
	}
	if m.control.Zone.Counter == len(m.versions) {
		m.versions = append(m.versions, m.control.Zone)
	}
	return ok
}

func (m *follow) bring(b bringing) bool {
	if len(m.way) < mostOnTheWay {
		m.way = append(m.way, b)
		return true
	}
	return false
}

func (m *follow) arrive(b bringing) {
	if b.whole && b.version > m.now[b.to] || !b.whole && b.version == m.now[b.to]+1 {
		m.now[b.to] = b.version
	}
}

func (m *follow) atEdge(kind, edge int) bool {
	if edge < 0 || edge >= len(m.now) {
		return false
	}
	switch kind {
	case 2:
		now := m.now[edge]
		return now >= m.first() && now < m.last() && m.bring(bringing{edge, false, now + 1})
	case 6:
		return m.bring(bringing{edge, true, m.last()})
	case 7:
		m.now[edge] = m.saved[edge]
	case 8:
		m.saved[edge] = m.now[edge]
	}
	return true
}

func (m *follow) ofParcel(kind, k int) bool {
	if k < 0 || k >= len(m.way) {
		return false
	}
	b := m.way[k]
	if kind == 5 {
		return m.bring(b)
	}
	if kind == 3 {
		m.arrive(b)
	}
	m.way = slices.Concat(m.way[:k], m.way[k+1:])
	return true
}

func (m *follow) step(s impl.EdgeStep) bool {
	switch s.Kind {
	case 1:
		return m.ask(s.Asked)
	case 2, 6, 7, 8:
		return m.atEdge(s.Kind, s.Edge)
	case 3, 4, 5:
		return m.ofParcel(s.Kind, s.K)
	}
	return false
}

func (m *follow) fleet() impl.Fleet {
	f := impl.Fleet{Control: m.control, Journal: journalOf(m.versions[m.first():]...)}
	for i, now := range m.now {
		f.Edges = append(f.Edges, edgeAt(m.versions[now], m.versions[m.saved[i]]))
	}
	for _, b := range m.way {
		if b.whole {
			f.Parcels = append(f.Parcels, wholeTo(b.to, m.versions[b.version]))
			continue
		}
		d, _ := wantDiffOf(m.versions[b.version-1], m.versions[b.version])
		f.Parcels = append(f.Parcels, diffTo(b.to, d))
	}
	return f
}

// wantFollowed is for as many edges as there may be.
func wantFollowed(edges int, l []impl.EdgeStep) (*follow, []bool) {
	m, done := newFollow(edges), []bool(nil)
	for _, s := range l {
		done = append(done, m.step(s))
	}
	return m, done
}

func wantEdges(edges int) bool {
	return edges >= 1 && edges <= mostEdges
}

func wantPlayFleet(edges int, l []impl.EdgeStep) (impl.Fleet, []bool, bool) {
	if !wantEdges(edges) || len(l) > mostEdgeSteps {
		return impl.Fleet{}, nil, false
	}
	m, done := wantFollowed(edges, l)
	return m.fleet(), done, true
}

func wantNewFleet(edges int) (impl.Fleet, bool) {
	f, _, ok := wantPlayFleet(edges, nil)
	return f, ok
}

func wantAnswerAt(f impl.Fleet, edge int, name string, kind int, least int) (impl.Found, bool, bool) {
	if !wantGoodFleet(f) || edge < 0 || edge >= len(f.Edges) {
		return impl.Found{}, false, false
	}
	z := f.Edges[edge].Zone
	found, ok := wantLookUp(z, name, kind)
	told := ok && z.Counter >= least
	if !told {
		found = impl.Found{}
	}
	return found, told, ok
}

func wantLagOf(f impl.Fleet, edge int) (int, bool) {
	if !wantGoodFleet(f) || edge < 0 || edge >= len(f.Edges) {
		return 0, false
	}
	return f.Control.Zone.Counter - f.Edges[edge].Zone.Counter, true
}

func wantSettled(f impl.Fleet) (impl.Fleet, int, bool) {
	if !wantGoodFleet(f) {
		return impl.Fleet{}, 0, false
	}
	then, used := impl.Fleet{Control: f.Control, Journal: f.Journal}, 0
	for _, e := range f.Edges {
		z, many, ok := wantCatchUp(e.Zone, f.Journal)
		if !ok {
			z, many = f.Control.Zone, 1
		}
		then.Edges = append(then.Edges, edgeAt(z, e.Saved))
		used += many
	}
	return then, used, true
}

func alikeEdges(a, b impl.Edge) bool {
	return alikeZones(a.Zone, b.Zone) && alikeZones(a.Saved, b.Saved)
}

func alikeParcels(a, b impl.Parcel) bool {
	return a.To == b.To && a.Whole == b.Whole && alikeZones(a.Zone, b.Zone) && alikeDiff(a.Diff, b.Diff)
}

func alikeFleets(a, b impl.Fleet) bool {
	return alikeControls(a.Control, b.Control) && alikeJournals(a.Journal, b.Journal) && slices.EqualFunc(a.Edges, b.Edges, alikeEdges) && slices.EqualFunc(a.Parcels, b.Parcels, alikeParcels)
}

// freshFleet lies in memory of its own.
func freshFleet(f impl.Fleet) impl.Fleet {
	fresh := impl.Fleet{Control: freshControl(f.Control), Journal: freshJournal(f.Journal)}
	for _, e := range f.Edges {
		fresh.Edges = append(fresh.Edges, edgeAt(freshZone(e.Zone), freshZone(e.Saved)))
	}
	for _, p := range f.Parcels {
		fresh.Parcels = append(fresh.Parcels, impl.Parcel{To: p.To, Whole: p.Whole, Zone: freshZone(p.Zone), Diff: freshDiff(p.Diff)})
	}
	return fresh
}

func fleetVersions(r *rand.Rand, many int) []impl.Zone {
	z := goodRandomZone(r)
	for z.Apex != apexOfFleets {
		z = goodRandomZone(r)
	}
	return versionsFrom(r, z, many)
}

// randomEdgeZone is a version; at times it only has the Counter of one, and no diff need fit it, or a Counter beside those of versions.
func randomEdgeZone(r *rand.Rand, versions []impl.Zone) impl.Zone {
	z, newest := oneOf(r, versions), versions[len(versions)-1].Counter
	switch r.Intn(8) {
	case 0:
		return atCounter(z, oneOf(r, versions).Counter)
	case 1:
		return atCounter(z, max(0, z.Counter-1))
	case 2:
		return atCounter(z, min(newest, z.Counter+1))
	case 3:
		return atCounter(z, newest)
	}
	return z
}

// randomParcel leads from one version to a later one, the next one above all.
func randomParcel(r *rand.Rand, edges int, versions []impl.Zone) impl.Parcel {
	if len(versions) == 1 || r.Intn(3) == 0 {
		return wholeTo(r.Intn(edges), randomEdgeZone(r, versions))
	}
	from := r.Intn(len(versions) - 1)
	to := from + 1
	if r.Intn(4) == 0 {
		to += r.Intn(len(versions) - to)
	}
	d, _ := wantDiffOf(versions[from], versions[to])
	return diffTo(r.Intn(edges), d)
}

// randomFleet is good, and need not be one that can be played to.
func randomFleet(r *rand.Rand) impl.Fleet {
	versions := fleetVersions(r, oneOf(r, []int{1, 2, 4, 13, 14, 1 + r.Intn(15)}))
	known := oneOf(r, []int{mostInJournal, mostInJournal, r.Intn(mostInJournal + 1)})
	f := impl.Fleet{Control: randomControl(r), Journal: journalOf(versions[max(0, len(versions)-1-known):]...)}
	f.Control.Zone = versions[len(versions)-1]
	for range 1 + r.Intn(mostEdges) {
		f.Edges = append(f.Edges, edgeAt(randomEdgeZone(r, versions), randomEdgeZone(r, versions)))
	}
	for range oneOf(r, []int{0, 1, 5, mostOnTheWay - 1, mostOnTheWay, mostOnTheWay, r.Intn(mostOnTheWay + 1)}) {
		f.Parcels = append(f.Parcels, randomParcel(r, len(f.Edges), versions))
	}
	return f
}

func damagedParcel(r *rand.Rand, p impl.Parcel, newest int) impl.Parcel {
	switch r.Intn(7) {
	case 0:
		p.To = oneOf(r, append(wildInts(), 0, 1, 2, 3))
	case 1:
		p.Whole = !p.Whole
	case 2:
		p.Zone = damagedZone(r, p.Zone)
	case 3:
		p.Diff = damagedDiff(r, p.Diff)
	case 4:
		p.Zone = atCounter(p.Zone, oneOf(r, []int{newest, newest + 1, 0}))
	case 5:
		p.Diff.To = oneOf(r, []int{newest, newest + 1, p.Diff.From - 1, p.Diff.From + 1})
	case 6:
		p.Zone, p.Diff = zoneOf("ex.com", 0), impl.Diff{From: 0, To: newest}
	}
	return p
}

// damagedFleet changes one thing about a fleet; what is handed in stays as it is.
func damagedFleet(r *rand.Rand, f impl.Fleet) impl.Fleet {
	f = freshFleet(f)
	newest := f.Control.Zone.Counter
	if len(f.Parcels) == 0 {
		f.Parcels = append(f.Parcels, wholeTo(0, zoneOf("ex.com", 0)))
	}
	if len(f.Edges) == 0 {
		f.Edges = append(f.Edges, edgeAt(zoneOf("ex.com", 0), zoneOf("ex.com", 0)))
	}
	edge, parcel := &f.Edges[r.Intn(len(f.Edges))], &f.Parcels[r.Intn(len(f.Parcels))]
	switch r.Intn(10) {
	case 0:
		f.Control = damagedControl(r, f.Control)
	case 1:
		f.Journal = damagedJournal(r, f.Journal)
	case 2:
		f.Edges = oneOf(r, [][]impl.Edge{nil, f.Edges[:len(f.Edges)-1], append(f.Edges, f.Edges...), append(f.Edges, f.Edges[0])})
	case 3:
		edge.Zone = damagedZone(r, edge.Zone)
	case 4:
		edge.Saved = damagedZone(r, edge.Saved)
	case 5:
		edge.Zone = atCounter(edge.Zone, newest+r.Intn(2))
	case 6:
		edge.Saved = atCounter(edge.Saved, newest+r.Intn(2))
	case 7:
		f.Parcels = append(f.Parcels, f.Parcels...)
	default:
		*parcel = damagedParcel(r, *parcel, newest)
	}
	return f
}

// randomEdgeStep leans on what can be done.
func randomEdgeStep(r *rand.Rand, f impl.Fleet) impl.EdgeStep {
	s := impl.EdgeStep{Kind: oneOf(r, []int{1, 1, 1, 2, 2, 2, 2, 3, 3, 3, 3, 4, 5, 6, 7, 8}), Edge: r.Intn(mostEdges), K: r.Intn(mostOnTheWay)}
	if len(f.Edges) > 0 {
		s.Edge = r.Intn(len(f.Edges))
	}
	if len(f.Parcels) > 0 {
		s.K = r.Intn(len(f.Parcels))
	}
	if s.Kind == 1 || r.Intn(20) == 0 {
		s.Asked = randomAsked(r, f.Control)
	}
	switch r.Intn(30) {
	case 0:
		s.Edge = oneOf(r, append(wildInts(), 0, 1, 2, 3, 4))
	case 1:
		s.K = oneOf(r, append(wildInts(), len(f.Parcels), mostOnTheWay, mostOnTheWay+1))
	case 2:
		s.Kind = oneOf(r, append(wildInts(), 0, 9, 10))
	}
	return s
}

// randomEdgeSteps are asked for what there is by then; often something that is asked is asked again. In some rows so much is asked that edges are left behind.
func randomEdgeSteps(r *rand.Rand, edges, many int) []impl.EdgeStep {
	m, f, busy := newFollow(max(1, min(edges, mostEdges))), impl.Fleet{}, r.Intn(3) == 0
	var l []impl.EdgeStep
	for range many {
		f = impl.Fleet{Control: m.control, Edges: make([]impl.Edge, len(m.now)), Parcels: make([]impl.Parcel, len(m.way))}
		s := randomEdgeStep(r, f)
		if busy && r.Intn(2) == 0 {
			s = askStep(askedBy(1, 1+m.control.Many, randomBatch(r, m.control.Zone, 3)...))
		}
		if at := r.Intn(len(l) + 1); at < len(l) && s.Kind == 1 && l[at].Kind == 1 && r.Intn(3) == 0 {
			s.Asked = l[at].Asked
		}
		l = append(l, s)
		m.step(s)
	}
	return l
}
