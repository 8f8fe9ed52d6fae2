package tests

import (
	"math"
	"math/rand"
	"slices"
	"strings"
	"testing"

	"loop.example/g00300/impl"
)

func checkNameIn(t *testing.T, z impl.Zone, name string) {
	t.Helper()
	there, ok := wantIsThere(z, name)
	if got, good := impl.IsThere(z, name); got != there || good != ok {
		t.Errorf("IsThere(%s, %.80q) = %v, %v; want %v, %v", shown(z), name, got, good, there, ok)
	}
	encloser, ok := wantEncloser(z, name)
	if got, good := impl.EncloserOf(z, name); got != encloser || good != ok {
		t.Errorf("EncloserOf(%s, %.80q) = %q, %v; want %q, %v", shown(z), name, got, good, encloser, ok)
	}
	cut, ok := wantCutAbove(z, name)
	if got, good := impl.CutAbove(z, name); got != cut || good != ok {
		t.Errorf("CutAbove(%s, %.80q) = %q, %v; want %q, %v", shown(z), name, got, good, cut, ok)
	}
}

func checkLookUp(t *testing.T, z impl.Zone, name string, kind int) {
	t.Helper()
	want, ok := wantLookUp(z, name, kind)
	if got, good := impl.LookUp(z, name, kind); !alikeFounds(got, want) || good != ok {
		t.Errorf("LookUp(%s, %.80q, %d) = %s, %v; want %s, %v", shown(z), name, kind, shown(got), good, shown(want), ok)
	}
	want, ok = wantChaseIn(z, name, kind)
	if got, good := impl.ChaseIn(z, name, kind); !alikeFounds(got, want) || good != ok {
		t.Errorf("ChaseIn(%s, %.80q, %d) = %s, %v; want %s, %v", shown(z), name, kind, shown(got), good, shown(want), ok)
	}
}

func checkGlue(t *testing.T, z impl.Zone, l []impl.Record) {
	t.Helper()
	want, ok := wantGlue(z, l)
	if got, good := impl.GlueFor(z, l); !slices.Equal(got, want) || good != ok {
		t.Errorf("GlueFor(%s, %s) = %s, %v; want %s, %v", shown(z), shown(l), shown(got), good, shown(want), ok)
	}
}

func TestLookupsAnswerAtAnyArguments(t *testing.T) {
	r := rand.New(rand.NewSource(72))
	for range 400 {
		z := randomLookZone(r)
		other := damagedZone(r, z)
		for _, name := range []string{randomLookName(r, z.Apex), randomText(r), damaged(r, randomLookName(r, z.Apex)), z.Records[r.Intn(len(z.Records))].Name} {
			checkNameIn(t, z, name)
			checkNameIn(t, other, name)
			checkLookUp(t, z, name, sixTypes[r.Intn(6)])
			checkLookUp(t, z, name, r.Intn(18))
			checkLookUp(t, other, name, sixTypes[r.Intn(6)])
		}
		l := randomLeads(r, z, 14)
		checkGlue(t, z, l)
		checkGlue(t, other, l)
		checkGlue(t, z, damagedList(r, l))
		checkGlue(t, z, z.Records)
	}
}

// All lists of at most three records from a pool in which they are in each other's way, and all names about them.
func TestLookupsInAllSmallZones(t *testing.T) {
	var pool []impl.Record
	names := []string{"", "com", "a.com", "b.a.com", "*.com", "*.a.com", "b.*.com", "c.b.a.com", "b.com", "c.b.com", "*.*.com", "*.b.a.com", "net"}
	for _, name := range names[1:7] {
		pool = append(pool, addressOf(name, 1), hostOf(name, 2, "a.com"), hostOf(name, 5, "b.a.com"), noteOf(name, "x"))
	}
	pool = append(pool, addressOf("a.com", 2), hostOf("b.a.com", 5, "com"), hostOf("a.com", 5, "c.b.com"))
	many := map[int]int{}
	var grow func(z impl.Zone, from int)
	grow = func(z impl.Zone, from int) {
		sorted := zoneOf("com", 7, z.Records[1:]...)
		for _, name := range names {
			for _, kind := range []int{1, 2, 5, 16} {
				want := wantChase(sorted, name, kind, nil)
				many[want.Kind]++
				if got, ok := impl.ChaseIn(sorted, name, kind); !alikeFounds(got, want) || !ok {
					t.Errorf("ChaseIn(%s, %q, %d) = %s, %v; want %s", shown(sorted), name, kind, shown(got), ok, shown(want))
				}
			}
		}
		for i := from; i < len(pool) && len(z.Records) < 4; i++ {
			if fitsInto(z, pool[i]) {
				more := z
				more.Records = append(slices.Clone(z.Records), pool[i])
				grow(more, i+1)
			}
		}
	}
	grow(zoneOf("com", 7), 0)
	if len(many) != 6 || slices.Min([]int{many[1], many[2], many[3], many[4], many[5], many[6]}) < 100 {
		t.Error("the answers are all of one kind", many)
	}
}

func TestLookupsAnswerAtWildArguments(t *testing.T) {
	long := strings.Repeat("a.", 1<<12)
	good := []impl.Zone{zoneOf("ex.com", 5, addressOf("*.ex.com", 1), hostOf("a.ex.com", 5, "a.ex.com"), hostOf("b.ex.com", 2, "ns")), zoneOf("", mostCounter, addressOf("*", 1)), fullZone(40, 0)}
	for _, n := range []int{math.MinInt, math.MinInt + 1, -1, 0, 1, 2, 5, 6, 15, 16, 17, 256, 257, allSerials + 1, math.MaxInt - 1, math.MaxInt} {
		for _, s := range []string{"", ".", "a", "*", "a.ex.com", "x.b.ex.com", "\n", "\x00", "\xff", "*.", ".*", long} {
			zones := slices.Clone(good)
			for _, l := range [][]impl.Record{nil, {}, {{}}, {{Name: s, Type: 6, Ttl: n, Data: s}}, {{Name: s, Type: 6, Data: "0"}}, {{Name: s, Type: n}}, make([]impl.Record, 40), make([]impl.Record, 500)} {
				zones = append(zones, impl.Zone{Apex: s, Counter: n, Records: l})
				checkGlue(t, good[0], l)
			}
			for _, z := range zones {
				checkNameIn(t, z, s)
				checkLookUp(t, z, s, n)
				checkLookUp(t, z, s, 1)
				checkGlue(t, z, []impl.Record{{Name: s, Type: 2, Ttl: n, Data: s}})
				checkGlue(t, z, []impl.Record{{Name: s, Type: n, Data: "1 " + s}})
			}
		}
	}
	for _, s := range textsOver("a*.b", 5) {
		checkNameIn(t, good[1], s)
		checkLookUp(t, good[1], s, 1)
	}
}

func textsOfFound(f impl.Found) []string {
	return append(append(textsOfRecords(f.Records), textsOfRecords(f.Chain)...), f.Owner)
}

// wantFoundApart looks at the lists of one answer as wantListsApart does at those of a message.
func wantFoundApart(t *testing.T, f impl.Found) {
	t.Helper()
	wantListsApart(t, impl.Message{Answer: f.Records, Authority: f.Chain})
}

func freshRecords(l []impl.Record) []impl.Record {
	fresh := make([]impl.Record, len(l))
	for i, r := range l {
		fresh[i] = freshRecord(r)
	}
	return fresh
}

func TestLookupAnswersShareNoMemory(t *testing.T) {
	r := rand.New(rand.NewSource(73))
	kinds := map[int]int{}
	for range 1500 {
		z := freshZone(randomLookZone(r))
		leads := freshRecords(randomLeads(r, z, 12))
		name, kind := strings.Clone(randomLookName(r, z.Apex)), []int{1, 2, 5, 16}[r.Intn(4)]
		zoneBefore, leadsBefore := freshZone(z), freshRecords(leads)
		given := append(append(textsOfZone(z), textsOfRecords(leads)...), name)

		found, _ := impl.LookUp(z, name, kind)
		chased, _ := impl.ChaseIn(z, name, kind)
		again, _ := impl.ChaseIn(z, name, kind)
		encloser, _ := impl.EncloserOf(z, name)
		cut, _ := impl.CutAbove(z, name)
		glue, _ := impl.GlueFor(z, leads)
		kinds[found.Kind]++
		wantApart(t, slices.Concat(textsOfFound(found), textsOfFound(chased), textsOfRecords(glue), []string{encloser, cut}), given...)
		wantFoundApart(t, found)
		wantFoundApart(t, chased)
		for _, l := range [][]impl.Record{found.Records, found.Chain, chased.Records, chased.Chain, glue} {
			writeOver(l, impl.Record{Name: "written"})
		}
		if want, _ := wantChaseIn(z, name, kind); !alikeFounds(again, want) {
			t.Errorf("an answer shares memory with one told ahead: %s", shown(again))
		}
		if !alikeZones(z, zoneBefore) || !slices.Equal(leads, leadsBefore) {
			t.Errorf("an answer shares memory with %s or %s", shown(zoneBefore), shown(leadsBefore))
		}
	}
	if len(kinds) != 6 {
		t.Error("the lookups are all of one kind", kinds)
	}
}

// In a circle one record is told again and again, each time anew.
func TestARecordToldTwiceIsTwo(t *testing.T) {
	z := freshZone(zoneOf("ex.com", 5, hostOf("same.ex.com", 5, "same.ex.com"), hostOf("*.ex.com", 5, "same.ex.com")))
	for _, name := range []string{"same.ex.com", "other.ex.com"} {
		found, ok := impl.ChaseIn(z, name, 1)
		if !ok || len(found.Chain) != 8 || len(found.Records) != 1 {
			t.Fatal(shown(found), ok)
		}
		wantFoundApart(t, found)
		texts := longTexts(found.Chain)
		for i := range texts {
			wantApart(t, texts[i:i+1], texts[i+1:]...)
		}
		wantApart(t, textsOfFound(found), textsOfZone(z)...)
	}
}

func TestLookupsWriteIntoNothing(t *testing.T) {
	r := rand.New(rand.NewSource(74))
	for i := range 400 {
		z := randomLookZone(r)
		leads := randomLeads(r, z, 12)
		name := randomLookName(r, z.Apex)
		if i%4 == 0 {
			z = damagedZone(r, z)
		}
		if i%5 == 0 {
			leads = damagedList(r, leads)
		}
		z.Records, leads = withSpareRecords(z.Records), withSpareRecords(leads)
		records, spare := z.Records[:cap(z.Records)], leads[:cap(leads)]
		recordsBefore, spareBefore := slices.Clone(records), slices.Clone(spare)
		checkNameIn(t, z, name)
		checkNameIn(t, z, "spare")
		checkLookUp(t, z, name, sixTypes[r.Intn(6)])
		checkLookUp(t, z, "spare", 16)
		checkGlue(t, z, leads)
		if !slices.Equal(records, recordsBefore) || !slices.Equal(spare, spareBefore) {
			t.Errorf("a zone or a list was written into: %s, %s", shown(z), shown(leads))
		}
	}
}

// Records behind a zone's length are neither there nor looked at: neither as records, nor as a star, nor as a cut.
func TestNothingIsFoundBehindAZone(t *testing.T) {
	z := zoneOf("ex.com", 5, hostOf("a.ex.com", 5, "b.ex.com"))
	spare := []impl.Record{addressOf("*.ex.com", 1), addressOf("b.ex.com", 1), hostOf("c.ex.com", 2, "b.ex.com")}
	z.Records = append(slices.Clone(z.Records), spare...)[:len(z.Records)]
	wantThereIs(t, z, false, "*.ex.com", "b.ex.com", "c.ex.com")
	wantEnclosed(t, z, "ex.com", "b.ex.com", "x.c.ex.com")
	wantNoCut(t, z, "c.ex.com", "x.c.ex.com")
	wantFoundAtAll(t, z, "b.ex.com", impl.FoundNoName, "ex.com")
	wantFoundAtAll(t, z, "x.c.ex.com", impl.FoundNoName, "ex.com")
	wantChased(t, z, "a.ex.com", 1, []string{"a.ex.com 60 5 b.ex.com"}, impl.FoundNoName, "ex.com")
	leads := []impl.Record{hostOf("x", 2, "b.ex.com"), hostOf("x", 2, "a.ex.com"), {Name: "bad..spare"}}
	wantGlueIs(t, z, leads[:1])
	whole := zoneOf("ex.com", 5, addressOf("a.ex.com", 1), addressOf("b.ex.com", 2), addressOf("b.ex.com", 3), hostOf("c.ex.com", 5, "b.ex.com"))
	wantGlueIs(t, whole, leads[:1], "b.ex.com 60 1 1.2.3.2", "b.ex.com 60 1 1.2.3.3")
	glue, _ := impl.GlueFor(whole, leads[:2])
	found, _ := impl.ChaseIn(whole, "c.ex.com", 1)
	for _, l := range [][]impl.Record{glue, found.Records, found.Chain} {
		for _, r := range l[:cap(l)][len(l):] {
			if r != (impl.Record{}) {
				t.Errorf("behind what is told stands %s", shown(r))
			}
		}
	}
}
