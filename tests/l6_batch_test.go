package tests

import (
	"fmt"
	"math"
	"math/rand"
	"slices"
	"testing"

	"loop.example/g00300/impl"
)

func add(r impl.Record) impl.Change { return impl.Change{Kind: impl.ChangeAdd, Record: r} }
func del(r impl.Record) impl.Change { return impl.Change{Kind: impl.ChangeDel, Record: r} }
func has(r impl.Record) impl.Change { return impl.Change{Kind: impl.ChangeHas, Record: r} }
func not(r impl.Record) impl.Change { return impl.Change{Kind: impl.ChangeNot, Record: r} }

func withTtl(r impl.Record, ttl int) impl.Record {
	r.Ttl = ttl
	return r
}

// wantDoneTo asks for a zone that has just these records beside its TypeSoa record, one Counter on.
func wantDoneTo(t *testing.T, z impl.Zone, l []impl.Change, records ...impl.Record) impl.Zone {
	t.Helper()
	want := zoneOf(z.Apex, z.Counter+1, records...)
	got, code := impl.ApplyBatch(z, l)
	if !alikeZones(got, want) || code != impl.BatchOk {
		t.Errorf("ApplyBatch(%s, %s) = %s, %d; want %s, 0", shown(z), shown(l), shown(got), code, shown(want))
	}
	wantZone(t, want)
	return want
}

// wantNothingDone asks for the zone as it was, beside the code.
func wantNothingDone(t *testing.T, z impl.Zone, code int, l ...impl.Change) {
	t.Helper()
	if got, told := impl.ApplyBatch(z, l); !alikeZones(got, z) || told != code {
		t.Errorf("ApplyBatch(%s, %s) = %s, %d; want the zone as it was, %d", shown(z), shown(l), shown(got), told, code)
	}
}

func TestBatchesOfNoneToTooMany(t *testing.T) {
	z := zoneOf("ex.com", 4, addressOf("a.ex.com", 200))
	wantDoneTo(t, z, nil, addressOf("a.ex.com", 200))
	wantDoneTo(t, z, []impl.Change{}, addressOf("a.ex.com", 200))
	var l []impl.Change
	records := []impl.Record{addressOf("a.ex.com", 200)}
	for i := range 12 {
		l = append(l, add(addressOf("a.ex.com", i)))
		records = append(records, addressOf("a.ex.com", i))
		wantDoneTo(t, z, l, records...)
	}
	wantNothingDone(t, z, impl.BatchBad, append(l, add(addressOf("a.ex.com", 12)))...)
	wantNothingDone(t, z, impl.BatchBad, append(l, l[0])...)
	wantNothingDone(t, z, impl.BatchBad, append(l, not(addressOf("none.ex.com", 1)))...)
	wantNothingDone(t, z, impl.BatchBad, append(l, del(addressOf("none.ex.com", 1)))...)
	wantNothingDone(t, z, impl.BatchBad, slices.Repeat(l, 1000)...)
}

func TestChangesThatAreNotAsSaid(t *testing.T) {
	z := zoneOf("ex.com", 4, addressOf("a.ex.com", 1))
	good := []impl.Change{add(addressOf("b.ex.com", 1)), del(addressOf("a.ex.com", 1)), has(addressOf("a.ex.com", 1)), not(addressOf("b.ex.com", 1))}
	wantDoneTo(t, z, good, addressOf("b.ex.com", 1))
	var bad []impl.Change
	for _, kind := range []int{0, -1, 5, 6, 255, 256, 257, allSerials + 1, math.MinInt, math.MaxInt} {
		bad = append(bad, impl.Change{Kind: kind, Record: addressOf("b.ex.com", 1)})
	}
	for kind := 1; kind <= 4; kind++ {
		for _, r := range []impl.Record{
			soaOf("ex.com", 4), soaOf("ex.com", 5), soaOf("b.ex.com", 0), soaOf("", 0), {}, {Name: "b.ex.com"}, {Name: "B.ex.com", Type: 16}, {Name: "b..ex.com", Type: 16},
			{Name: "b.ex.com", Type: 1, Data: "1.2.3"}, {Name: "b.ex.com", Type: 3, Data: "x"}, {Name: "b.ex.com", Type: 16, Ttl: -1}, {Name: "b.ex.com", Type: 16, Ttl: 100001},
			{Name: "a.ex.com", Type: 1}, {Name: "b.ex.com", Type: 16, Ttl: math.MinInt}, {Name: "b.ex.com", Type: math.MaxInt, Ttl: math.MaxInt}, {Name: "b.ex.com", Type: 5, Data: "*.x"},
		} {
			bad = append(bad, impl.Change{Kind: kind, Record: r})
		}
	}
	for _, c := range bad {
		wantNothingDone(t, z, impl.BatchBad, c)
		for at := range len(good) + 1 {
			wantNothingDone(t, z, impl.BatchBad, slices.Insert(slices.Clone(good), at, c)...)
		}
	}
}

func TestWhatIsNeeded(t *testing.T) {
	a, b, note := addressOf("a.ex.com", 1), addressOf("b.ex.com", 1), noteOf("a.ex.com", "x")
	z := zoneOf("ex.com", 4, a, addressOf("a.ex.com", 2))
	all := z.Records[1:]
	wantDoneTo(t, z, []impl.Change{has(a)}, all...)
	wantDoneTo(t, z, []impl.Change{not(b)}, all...)
	wantDoneTo(t, z, []impl.Change{not(note), has(a), not(b), has(a), not(note)}, all...)
	// Neither Ttl nor Data are asked for.
	wantDoneTo(t, z, []impl.Change{has(addressOf("a.ex.com", 77)), has(withTtl(a, 5))}, all...)
	wantNothingDone(t, z, impl.BatchNeed, not(addressOf("a.ex.com", 77)))
	wantNothingDone(t, z, impl.BatchNeed, not(withTtl(a, 5)))
	wantNothingDone(t, z, impl.BatchNeed, has(b))
	wantNothingDone(t, z, impl.BatchNeed, has(note))
	wantNothingDone(t, z, impl.BatchNeed, not(a))
	wantNothingDone(t, z, impl.BatchNeed, has(a), not(b), has(b))
	wantNothingDone(t, z, impl.BatchNeed, has(a), not(a))
	wantNothingDone(t, z, impl.BatchNeed, has(b), not(b))
	wantNothingDone(t, z, impl.BatchNeed, add(b), has(note))
	// What is not below the apex has no records; a star is a name like others, and stands for none.
	wantDoneTo(t, z, []impl.Change{not(addressOf("ex.net", 1)), not(addressOf("com", 1)), not(addressOf("", 1))}, all...)
	wantNothingDone(t, z, impl.BatchNeed, has(addressOf("ex.net", 1)))
	star := zoneOf("ex.com", 4, addressOf("*.ex.com", 1))
	wantDoneTo(t, star, []impl.Change{has(addressOf("*.ex.com", 2)), not(a)}, addressOf("*.ex.com", 1))
	wantNothingDone(t, star, impl.BatchNeed, has(a))
	// A name that is there for one below it alone has none.
	below := zoneOf("ex.com", 4, addressOf("c.b.ex.com", 1))
	wantNothingDone(t, below, impl.BatchNeed, has(b))
	wantDoneTo(t, below, []impl.Change{not(b)}, addressOf("c.b.ex.com", 1))
}

// What is needed is asked of the zone as it was, whatever the batch has done by then.
func TestWhatIsNeededBesideChanges(t *testing.T) {
	a, b := addressOf("a.ex.com", 1), addressOf("b.ex.com", 1)
	z := zoneOf("ex.com", 4, a)
	wantDoneTo(t, z, []impl.Change{del(a), has(a)})
	wantDoneTo(t, z, []impl.Change{has(a), del(a)})
	wantNothingDone(t, z, impl.BatchNeed, del(a), not(a))
	wantNothingDone(t, z, impl.BatchNeed, not(a), del(a))
	wantDoneTo(t, z, []impl.Change{add(b), not(b)}, a, b)
	wantDoneTo(t, z, []impl.Change{not(b), add(b)}, a, b)
	wantNothingDone(t, z, impl.BatchNeed, add(b), has(b))
	wantNothingDone(t, z, impl.BatchNeed, has(b), add(b))
	wantDoneTo(t, z, []impl.Change{not(b), add(b), del(b), not(b)}, a)
	wantDoneTo(t, z, []impl.Change{has(a), del(a), has(a), add(a), has(a)}, a)
}

func TestDeletes(t *testing.T) {
	a, second, note := addressOf("a.ex.com", 1), addressOf("a.ex.com", 2), noteOf("a.ex.com", "x")
	z := zoneOf("ex.com", 4, a, second, note)
	wantDoneTo(t, z, []impl.Change{del(a)}, second, note)
	wantDoneTo(t, z, []impl.Change{del(note)}, a, second)
	wantDoneTo(t, z, []impl.Change{del(a), del(second), del(note)})
	wantDoneTo(t, z, []impl.Change{del(a), del(a)}, second, note)
	// Another Ttl is the same record.
	wantDoneTo(t, z, []impl.Change{del(withTtl(a, 0))}, second, note)
	wantDoneTo(t, z, []impl.Change{del(withTtl(a, 100000))}, second, note)
	// What is not there is nothing, but the batch is done.
	for _, r := range []impl.Record{
		addressOf("a.ex.com", 3), addressOf("b.ex.com", 1), noteOf("a.ex.com", ""), noteOf("a.ex.com", "X"), hostOf("a.ex.com", 5, "x"), addressOf("x.a.ex.com", 1),
		addressOf("ex.com", 1), addressOf("ex.net", 1), addressOf("", 1), addressOf("*.ex.com", 1), addressOf("*.com", 1),
	} {
		wantDoneTo(t, z, []impl.Change{del(r)}, a, second, note)
		wantDoneTo(t, z, []impl.Change{del(r), del(a), del(r)}, second, note)
	}
	// What the batch put in is taken away, too, and what it took away is put in.
	b := addressOf("b.ex.com", 1)
	wantDoneTo(t, z, []impl.Change{add(b), del(b)}, a, second, note)
	wantDoneTo(t, z, []impl.Change{add(b), del(withTtl(b, 7))}, a, second, note)
	wantDoneTo(t, z, []impl.Change{del(b), add(b)}, a, second, note, b)
	wantDoneTo(t, z, []impl.Change{del(a), add(a)}, a, second, note)
	wantDoneTo(t, z, []impl.Change{add(b), del(b), add(b)}, a, second, note, b)
	wantDoneTo(t, z, []impl.Change{del(a), add(a), del(a)}, second, note)
	// A name in the middle and one at the end go, others stay.
	wantDoneTo(t, fullZone(4, 1), []impl.Change{del(addressOf("n01.ex.com", 1))}, addressOf("n00.ex.com", 0), addressOf("n02.ex.com", 2))
}

func TestAdds(t *testing.T) {
	a, second := addressOf("a.ex.com", 1), addressOf("a.ex.com", 2)
	z := zoneOf("ex.com", 4, a)
	wantDoneTo(t, z, []impl.Change{add(a)}, a)
	wantDoneTo(t, z, []impl.Change{add(a), add(a)}, a)
	wantDoneTo(t, z, []impl.Change{add(second)}, a, second)
	wantDoneTo(t, z, []impl.Change{add(second), add(second)}, a, second)
	// Another Ttl comes in place of the one that is there, and the last one stays.
	for _, ttl := range []int{0, 1, 59, 61, 100000} {
		wantDoneTo(t, z, []impl.Change{add(withTtl(a, ttl))}, withTtl(a, ttl))
		wantDoneTo(t, z, []impl.Change{add(withTtl(a, 8)), add(withTtl(a, ttl))}, withTtl(a, ttl))
		wantDoneTo(t, z, []impl.Change{add(withTtl(a, ttl)), add(a)}, a)
		wantDoneTo(t, z, []impl.Change{add(withTtl(a, ttl)), add(withTtl(second, ttl))}, withTtl(a, ttl), withTtl(second, ttl))
		wantNothingDone(t, z, impl.BatchRule, add(withTtl(second, ttl)))
	}
	// One of a set can't have another Ttl, all of it can.
	both := zoneOf("ex.com", 4, a, second)
	wantNothingDone(t, both, impl.BatchRule, add(withTtl(a, 7)))
	wantNothingDone(t, both, impl.BatchRule, add(withTtl(second, 7)))
	wantDoneTo(t, both, []impl.Change{add(withTtl(a, 7)), add(withTtl(second, 7))}, withTtl(a, 7), withTtl(second, 7))
	wantDoneTo(t, both, []impl.Change{add(withTtl(a, 7)), del(second)}, withTtl(a, 7))
	// Records come to their places, wherever these are.
	wantDoneTo(t, z, []impl.Change{add(addressOf("z.ex.com", 9)), add(addressOf("ex.com", 3)), add(noteOf("ex.com", "")), add(addressOf("b.a.ex.com", 1)), add(addressOf("*.ex.com", 10)), add(addressOf("*.ex.com", 9))},
		addressOf("ex.com", 3), noteOf("ex.com", ""), addressOf("*.ex.com", 9), addressOf("*.ex.com", 10), a, addressOf("b.a.ex.com", 1), addressOf("z.ex.com", 9))
}

func TestTheSerialRisesWithTheCounter(t *testing.T) {
	for _, counter := range append(counterEdges(), allSerials-3, allSerials-2, 2*allSerials-1, 9*allSerials-1) {
		z := zoneOf("ex.com", counter, addressOf("a.ex.com", 1))
		z.Records[0].Ttl = 77
		next := zoneOf("ex.com", counter+1, addressOf("a.ex.com", 1))
		next.Records[0].Ttl = 77
		got, code := impl.ApplyBatch(z, nil)
		if counter == mostCounter {
			if !alikeZones(got, z) || code != impl.BatchFull {
				t.Errorf("%s, %d", shown(got), code)
			}
			continue
		}
		if !alikeZones(got, next) || code != 0 {
			t.Errorf("of Counter %d: %s, %d", counter, shown(got), code)
		}
		before, _ := impl.SerialIn(z)
		after, ok := impl.SerialIn(got)
		if newer, told := impl.SerialLess(before, after); !newer || !told || !ok {
			t.Errorf("%d is not newer than %d", after, before)
		}
	}
	z := zoneOf("ex.com", allSerials-2)
	for i, data := range []string{"4294967295", "0", "1", "2"} {
		z, _ = impl.ApplyBatch(z, nil)
		if z.Counter != allSerials-1+i || z.Records[0].Data != data {
			t.Error(shown(z))
		}
	}
}

func TestFullZones(t *testing.T) {
	full := fullZone(40, 3)
	more, first := addressOf("z.ex.com", 1), addressOf("n00.ex.com", 0)
	wantNothingDone(t, full, impl.BatchFull, add(more))
	wantNothingDone(t, full, impl.BatchFull, add(more), add(addressOf("y.ex.com", 1)), del(first))
	wantDoneTo(t, full, nil, full.Records[1:]...)
	wantDoneTo(t, full, []impl.Change{add(first)}, full.Records[1:]...)
	wantDoneTo(t, full, []impl.Change{add(withTtl(first, 9))}, append([]impl.Record{withTtl(first, 9)}, full.Records[2:]...)...)
	// On the way alone there may be more.
	wantDoneTo(t, full, []impl.Change{add(more), del(first)}, append(slices.Clone(full.Records[2:]), more)...)
	wantDoneTo(t, full, []impl.Change{add(more), del(more)}, full.Records[1:]...)
	wantDoneTo(t, full, []impl.Change{del(first), add(more)}, append(slices.Clone(full.Records[2:]), more)...)
	var l []impl.Change
	for i := range 6 {
		l = append(l, add(addressOf("y.ex.com", i)))
	}
	for i := range 6 {
		l = append(l, del(addressOf("y.ex.com", i)))
	}
	wantDoneTo(t, full, l, full.Records[1:]...)
	wantNothingDone(t, full, impl.BatchFull, l[:11]...)
	almost := fullZone(39, 3)
	wantDoneTo(t, almost, []impl.Change{add(more)}, append(slices.Clone(almost.Records[1:]), more)...)
	wantNothingDone(t, almost, impl.BatchFull, add(more), add(addressOf("y.ex.com", 1)))
	wantNothingDone(t, fullZone(29, 3), impl.BatchFull, addsOf(12)...)
	if _, code := impl.ApplyBatch(fullZone(28, 3), addsOf(12)); code != impl.BatchOk {
		t.Error(code)
	}
}

func addsOf(many int) []impl.Change {
	var l []impl.Change
	for i := range many {
		l = append(l, add(addressOf("y.ex.com", i)))
	}
	return l
}

// The last counter has none behind it, not even for a batch that changes no record.
func TestZonesAtTheLastCounter(t *testing.T) {
	a := addressOf("a.ex.com", 1)
	last := zoneOf("ex.com", mostCounter, a)
	wantNothingDone(t, last, impl.BatchFull)
	wantNothingDone(t, last, impl.BatchFull, add(a))
	wantNothingDone(t, last, impl.BatchFull, del(a))
	wantNothingDone(t, last, impl.BatchFull, del(addressOf("b.ex.com", 1)))
	wantNothingDone(t, last, impl.BatchFull, has(a))
	wantNothingDone(t, last, impl.BatchNeed, not(a))
	wantNothingDone(t, last, impl.BatchBad, add(soaOf("ex.com", 0)))
	wantNothingDone(t, last, impl.BatchFull, add(addressOf("ex.net", 1)))
	wantDoneTo(t, zoneOf("ex.com", mostCounter-1, a), []impl.Change{del(a)})
}

func TestRulesInBatches(t *testing.T) {
	z := zoneOf("ex.com", 3, addressOf("a.ex.com", 1), hostOf("c.ex.com", 5, "x"), hostOf("d.ex.com", 2, "x"))
	rest := z.Records[1:]
	broken := []impl.Record{
		addressOf("ex.net", 1), addressOf("", 1), withTtl(addressOf("a.ex.com", 2), 61), hostOf("a.ex.com", 5, "x"), addressOf("c.ex.com", 1), hostOf("c.ex.com", 5, "y"),
		hostOf("ex.com", 5, "x"), noteOf("d.ex.com", ""), hostOf("e.d.ex.com", 2, "x"), noteOf("*.d.ex.com", ""),
	}
	other := addressOf("b.ex.com", 1)
	for _, r := range broken {
		wantNothingDone(t, z, impl.BatchRule, add(r))
		wantNothingDone(t, z, impl.BatchRule, add(other), add(r))
		wantNothingDone(t, z, impl.BatchRule, add(r), add(other))
		wantNothingDone(t, z, impl.BatchRule, del(r), add(r), add(other))
		// On the way alone a rule may be broken.
		wantDoneTo(t, z, []impl.Change{add(r), del(r)}, rest...)
		wantDoneTo(t, z, []impl.Change{add(r), add(other), del(r)}, append(slices.Clone(rest), other)...)
	}
	// What was in the way is gone by the end.
	wantDoneTo(t, z, []impl.Change{add(hostOf("a.ex.com", 5, "x")), del(addressOf("a.ex.com", 1))}, hostOf("a.ex.com", 5, "x"), rest[1], rest[2])
	wantDoneTo(t, z, []impl.Change{add(noteOf("e.d.ex.com", "")), del(hostOf("d.ex.com", 2, "x"))}, rest[0], rest[1], noteOf("e.d.ex.com", ""))
	wantDoneTo(t, z, []impl.Change{add(withTtl(addressOf("a.ex.com", 2), 61)), add(withTtl(addressOf("a.ex.com", 1), 61))}, withTtl(addressOf("a.ex.com", 1), 61), withTtl(addressOf("a.ex.com", 2), 61), rest[1], rest[2])
	// A cut that is put in above other records breaks a rule, too.
	wantNothingDone(t, zoneOf("ex.com", 3, noteOf("b.a.ex.com", "")), impl.BatchRule, add(hostOf("a.ex.com", 2, "x")))
	wantDoneTo(t, zoneOf("ex.com", 3, addressOf("b.a.ex.com", 1)), []impl.Change{add(hostOf("a.ex.com", 2, "x"))}, addressOf("b.a.ex.com", 1), hostOf("a.ex.com", 2, "x"))
}

// Each code beside all that stand behind it in the order of the chapter: bad, need, full, rule.
func TestTheFirstCodeCounts(t *testing.T) {
	full := fullZone(40, 3)
	bad, need := add(soaOf("ex.com", 3)), not(addressOf("n00.ex.com", 0))
	more, rule := add(addressOf("z.ex.com", 1)), add(addressOf("ex.net", 1))
	swap := del(addressOf("n01.ex.com", 1))
	for _, both := range [][]impl.Change{{rule, more}, {more, rule}} {
		wantNothingDone(t, full, impl.BatchFull, both...)
		wantNothingDone(t, full, impl.BatchNeed, append(both, need)...)
		wantNothingDone(t, full, impl.BatchNeed, append([]impl.Change{need}, both...)...)
		wantNothingDone(t, full, impl.BatchBad, append(both, need, bad)...)
		wantNothingDone(t, full, impl.BatchBad, append([]impl.Change{bad, need}, both...)...)
	}
	wantNothingDone(t, full, impl.BatchFull, rule)
	wantNothingDone(t, full, impl.BatchRule, rule, swap)
	wantNothingDone(t, full, impl.BatchNeed, rule, swap, need)
	wantNothingDone(t, full, impl.BatchNeed, need, more)
	wantNothingDone(t, full, impl.BatchNeed, need)
	wantNothingDone(t, full, impl.BatchBad, need, bad)
	wantNothingDone(t, full, impl.BatchBad, more, bad)
	wantNothingDone(t, full, impl.BatchBad, rule, swap, bad)
	many := append(slices.Repeat([]impl.Change{need, more, rule}, 4), need)
	wantNothingDone(t, full, impl.BatchBad, many...)
	wantNothingDone(t, full, impl.BatchNeed, many[:12]...)
	// A zone that is not good is told ahead of all, and not told back.
	damaged := fullZone(40, 3)
	damaged.Counter = 4
	for _, l := range [][]impl.Change{nil, {bad}, {need}, {more}, {rule}, many} {
		if got, code := impl.ApplyBatch(damaged, l); !alikeZones(got, impl.Zone{}) || code != impl.BatchBad {
			t.Errorf("%s, %d", shown(got), code)
		}
	}
}

// doneWhole looks at a batch from outside: what the last change of each record asks for is so, and all else is as it was.
func doneWhole(before, after impl.Zone, l []impl.Change) bool {
	last := map[string]impl.Change{}
	key := func(r impl.Record) string { return fmt.Sprint(r.Name, " ", r.Type, " ", r.Data) }
	for _, c := range l {
		if c.Kind <= 2 {
			last[key(c.Record)] = c
		}
	}
	for _, r := range slices.Concat(before.Records, after.Records) {
		c, asked := last[key(r)]
		if r.Type != 6 && !asked && !(slices.Contains(before.Records, r) && slices.Contains(after.Records, r)) {
			return false
		}
		if asked && slices.Contains(after.Records, r) && c != add(r) {
			return false
		}
	}
	for _, c := range last {
		if c.Kind == 1 && !slices.Contains(after.Records, c.Record) {
			return false
		}
	}
	return after.Apex == before.Apex && after.Counter == before.Counter+1 && wantGoodZone(after)
}

// Promise 6.
func TestABatchIsDoneWholeOrNothingOfIt(t *testing.T) {
	r := rand.New(rand.NewSource(62))
	codes := map[int]int{}
	for range 400 {
		z := goodRandomZone(r)
		for range 10 {
			l := randomBatch(r, z, 12)
			if r.Intn(40) == 0 && len(l) > 0 {
				l[r.Intn(len(l))].Record.Ttl = -1
			}
			got, code := impl.ApplyBatch(z, l)
			codes[code]++
			if code == impl.BatchOk && !doneWhole(z, got, l) {
				t.Errorf("not the whole of %s is done to %s: %s", shown(l), shown(z), shown(got))
			}
			if code != impl.BatchOk && !alikeZones(got, z) {
				t.Errorf("code %d, but %s became %s", code, shown(z), shown(got))
			}
			z = got
		}
	}
	if len(codes) != 5 || slices.Min([]int{codes[0], codes[1], codes[2], codes[3], codes[4]}) < 20 {
		t.Error("the batches are all of one kind", codes)
	}
}
