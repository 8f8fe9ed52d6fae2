package tests

import (
	"math"
	"math/rand"
	"slices"
	"strings"
	"testing"

	"loop.example/g00300/impl"
)

func checkZone(t *testing.T, z impl.Zone) {
	t.Helper()
	if impl.GoodZone(z) != wantGoodZone(z) {
		t.Errorf("GoodZone(%s) = %v", shown(z), !wantGoodZone(z))
	}
	if got, want := impl.RuleOf(z.Apex, z.Records), wantRule(z.Apex, z.Records); got != want {
		t.Errorf("RuleOf(%s) = %d; want %d", shown(z), got, want)
	}
	serial, ok := wantZoneSerial(z)
	if got, good := impl.SerialIn(z); got != serial || good != ok {
		t.Errorf("SerialIn(%s) = %d, %v; want %d, %v", shown(z), got, good, serial, ok)
	}
	names, ok := wantNames(z)
	if got, good := impl.NamesIn(z); !slices.Equal(got, names) || good != ok {
		t.Errorf("NamesIn(%s) = %q, %v; want %q, %v", shown(z), got, good, names, ok)
	}
	text, ok := wantZoneText(z)
	if got, good := impl.ZoneText(z); got != text || good != ok {
		t.Errorf("ZoneText(%s) = %q, %v; want %q, %v", shown(z), got, good, text, ok)
	}
}

func checkSetIn(t *testing.T, z impl.Zone, name string, kind int) {
	t.Helper()
	want, ok := wantSet(z, name, kind)
	if got, good := impl.SetIn(z, name, kind); !slices.Equal(got, want) || good != ok {
		t.Errorf("SetIn(%s, %.80q, %d) = %s, %v; want %s, %v", shown(z), name, kind, shown(got), good, shown(want), ok)
	}
}

func checkBatch(t *testing.T, z impl.Zone, l []impl.Change) {
	t.Helper()
	want, code := wantBatch(z, l)
	if got, told := impl.ApplyBatch(z, l); !alikeZones(got, want) || told != code {
		t.Errorf("ApplyBatch(%s, %s) = %s, %d; want %s, %d", shown(z), shown(l), shown(got), told, shown(want), code)
	}
}

func checkZoneFrom(t *testing.T, s string) {
	t.Helper()
	want, ok := wantZoneFrom(s)
	if got, good := impl.ReadZone(s); !alikeZones(got, want) || good != ok {
		t.Errorf("ReadZone(%.300q) = %s, %v; want %s, %v", s, shown(got), good, shown(want), ok)
	}
}

func damagedBatch(r *rand.Rand, l []impl.Change) []impl.Change {
	l = slices.Clone(l)
	if len(l) == 0 {
		return []impl.Change{{Kind: r.Intn(6), Record: randomRecord(r)}}
	}
	at := r.Intn(len(l))
	switch r.Intn(4) {
	case 0:
		l[at].Kind = r.Intn(8) - 2
	case 1:
		l[at].Record = randomRecord(r)
	case 2:
		l[at].Record.Name = damaged(r, l[at].Record.Name)
	case 3:
		l[at].Record.Data = damaged(r, l[at].Record.Data)
	}
	return l
}

// damagedLines puts the lines of a text into another order, or one of them in twice or not at all.
func damagedLines(r *rand.Rand, s string) string {
	lines := strings.Split(s, "\n")
	at, other := r.Intn(len(lines)), r.Intn(len(lines))
	switch r.Intn(3) {
	case 0:
		lines[at], lines[other] = lines[other], lines[at]
	case 1:
		lines = slices.Insert(lines, at, lines[other])
	case 2:
		lines = slices.Delete(lines, at, at+1)
	}
	return strings.Join(lines, "\n")
}

func TestZonesAnswerAtAnyArguments(t *testing.T) {
	r := rand.New(rand.NewSource(63))
	for range 1000 {
		z := goodRandomZone(r)
		other := damagedZone(r, z)
		checkZone(t, z)
		checkZone(t, other)
		checkZone(t, damagedZone(r, other))
		checkSetIn(t, z, z.Records[r.Intn(len(z.Records))].Name, sixTypes[r.Intn(6)])
		checkSetIn(t, z, randomZoneName(r, z.Apex), r.Intn(18))
		checkSetIn(t, z, randomText(r), sixTypes[r.Intn(6)])
		checkSetIn(t, other, randomZoneName(r, z.Apex), sixTypes[r.Intn(6)])
		l := randomBatch(r, z, 14)
		checkBatch(t, z, l)
		checkBatch(t, other, l)
		checkBatch(t, z, damagedBatch(r, l))
		checkBatch(t, z, damagedBatch(r, damagedBatch(r, l)))
		text, _ := wantZoneText(z)
		checkZoneFrom(t, text)
		checkZoneFrom(t, damaged(r, text))
		checkZoneFrom(t, damagedLines(r, text))
		checkZoneFrom(t, damagedLines(r, damaged(r, text)))
		apex := randomText(r)
		want, ok := wantNewZone(apex)
		if got, good := impl.NewZone(apex); !alikeZones(got, want) || good != ok {
			t.Errorf("NewZone(%q) = %s, %v; want %s, %v", apex, shown(got), good, shown(want), ok)
		}
	}
}

// All lists of few records from a pool in which they are in each other's way: of three, and of four with a TypeSoa record.
func TestRulesOfAllSmallLists(t *testing.T) {
	pool := []impl.Record{soaOf("com", 0), soaOf("com", 1), soaOf("a.com", 0), withTtl(soaOf("com", 0), 61), addressOf("net", 1), addressOf("", 1)}
	for _, name := range []string{"com", "a.com", "b.a.com", "*.com"} {
		pool = append(pool, oneOfEachType(name)...)
		pool = append(pool, withTtl(addressOf(name, 1), 61), hostOf(name, 2, "other"))
	}
	pool = inOrder(pool...)
	var grow func(l []impl.Record, from int)
	many := map[int]int{}
	grow = func(l []impl.Record, from int) {
		for _, apex := range []string{"com", "", "a.com", "*.com"} {
			rule := wantRule(apex, l)
			many[rule]++
			if got := impl.RuleOf(apex, l); got != rule {
				t.Errorf("RuleOf(%q, %s) = %d; want %d", apex, shown(l), got, rule)
			}
		}
		for i := from; i < len(pool) && len(l) < 4; i++ {
			if len(l) < 3 || slices.Contains(l, soaOf("com", 0)) {
				grow(append(slices.Clone(l), pool[i]), i+1)
			}
		}
	}
	grow(nil, 0)
	if many[0] < 100 || many[1] < 100 || many[2] < 100 || many[3] < 100 || many[4] < 100 || many[5] != 0 || many[6] < 100 || many[9] < 100 {
		t.Error("the lists are all of one kind", many)
	}
}

func TestZonesAnswerAtWildArguments(t *testing.T) {
	long := strings.Repeat("a.", 1<<16)
	numbers := []int{math.MinInt, math.MinInt + 1, -1, 0, 1, 40, 41, allSerials, mostCounter, mostCounter + 1, math.MaxInt - 1, math.MaxInt}
	for _, n := range numbers {
		for _, s := range []string{"", ".", "a", "*", "\n", "\x00", "\xff", long} {
			for _, l := range [][]impl.Record{nil, {}, {{}}, {{Name: s, Type: 6, Ttl: n, Data: s}}, {{Name: s, Type: 6, Data: "0"}}, {{Name: s, Type: n}}, make([]impl.Record, 40), make([]impl.Record, 500)} {
				z := impl.Zone{Apex: s, Counter: n, Records: l}
				checkZone(t, z)
				checkSetIn(t, z, s, n)
				checkBatch(t, z, nil)
				checkBatch(t, z, make([]impl.Change, 500))
			}
			good := zoneOf("ex.com", 5)
			checkSetIn(t, good, s, n)
			checkSetIn(t, good, s, 1)
			checkSetIn(t, good, "ex.com", n)
			checkBatch(t, good, []impl.Change{{Kind: n, Record: addressOf("a.ex.com", 1)}})
			checkBatch(t, good, []impl.Change{{Kind: 1, Record: impl.Record{Name: s, Type: 16, Ttl: n, Data: s}}})
			checkBatch(t, good, []impl.Change{{Kind: 2, Record: impl.Record{Name: "a.ex.com", Type: n, Data: s}}})
			checkZoneFrom(t, s)
			checkZoneFrom(t, s+" 0\n"+s+" 60 6 0")
		}
	}
	for _, s := range textsOver(". 0\n6a", 5) {
		checkZoneFrom(t, s)
		checkZoneFrom(t, s+"\n. 60 6 0")
	}
}

// freshZone lies in memory of its own.
func freshZone(z impl.Zone) impl.Zone {
	z.Apex = strings.Clone(z.Apex)
	z.Records = slices.Clone(z.Records)
	for i, r := range z.Records {
		z.Records[i] = freshRecord(r)
	}
	return z
}

func freshBatch(l []impl.Change) []impl.Change {
	l = slices.Clone(l)
	for i, c := range l {
		l[i].Record = freshRecord(c.Record)
	}
	return l
}

func textsOfZone(z impl.Zone) []string {
	return append(textsOfRecords(z.Records), z.Apex)
}

func textsOfBatch(l []impl.Change) []string {
	var texts []string
	for _, c := range l {
		texts = append(texts, c.Record.Name, c.Record.Data)
	}
	return texts
}

// writeOver fills a list up to its end in memory.
func writeOver[T any](l []T, with T) {
	whole := l[:cap(l)]
	for i := range whole {
		whole[i] = with
	}
}

func TestZoneAnswersShareNoMemory(t *testing.T) {
	r := rand.New(rand.NewSource(64))
	codes := map[int]int{}
	for range 300 {
		z := freshZone(goodRandomZone(r))
		l := freshBatch(randomBatch(r, z, 12))
		if r.Intn(8) == 0 {
			l = freshBatch(damagedBatch(r, l))
		}
		zoneBefore, batchBefore := freshZone(z), freshBatch(l)
		given := append(textsOfZone(z), textsOfBatch(l)...)

		changed, code := impl.ApplyBatch(z, l)
		codes[code]++
		wantApart(t, textsOfZone(changed), given...)
		fresh, _ := impl.NewZone(z.Apex)
		wantApart(t, textsOfZone(fresh), given...)
		at := z.Records[r.Intn(len(z.Records))]
		set, _ := impl.SetIn(z, at.Name, at.Type)
		wantApart(t, textsOfRecords(set), given...)
		names, _ := impl.NamesIn(z)
		wantApart(t, names, given...)
		text, _ := impl.ZoneText(z)
		wantApart(t, []string{text}, given...)
		back, _ := impl.ReadZone(text)
		wantApart(t, textsOfZone(back), append(given, text)...)

		for _, records := range [][]impl.Record{changed.Records, fresh.Records, set, back.Records} {
			if len(records) == 0 {
				t.Error("nothing is told")
			}
			writeOver(records, impl.Record{Name: "written"})
		}
		writeOver(names, "written")
		if !alikeZones(z, zoneBefore) || !slices.Equal(l, batchBefore) {
			t.Errorf("an answer shares memory with %s or %s", shown(zoneBefore), shown(batchBefore))
		}
	}
	if codes[impl.BatchOk] == 0 || codes[impl.BatchOk] == 300 {
		t.Error("the batches are all of one kind", codes)
	}
}

// An answer that is told twice is two.
func TestZonesAreNewEachTime(t *testing.T) {
	z := zoneOf("ex.com", 3, addressOf("a.ex.com", 1))
	bad := []impl.Change{{}}
	for _, l := range [][]impl.Change{nil, bad, {has(addressOf("b.ex.com", 1))}, {add(addressOf("ex.net", 1))}} {
		one, _ := impl.ApplyBatch(z, l)
		two, _ := impl.ApplyBatch(z, l)
		kept := freshZone(two)
		writeOver(one.Records, impl.Record{Name: "written"})
		if !alikeZones(two, kept) || !alikeZones(z, zoneOf("ex.com", 3, addressOf("a.ex.com", 1))) {
			t.Error(shown(two), shown(z))
		}
	}
}

// withSpareChanges puts changes behind the list's length that would be seen: one is done, one is not as said.
func withSpareChanges(l []impl.Change) []impl.Change {
	whole := append(slices.Clone(l), add(addressOf("spare.ex.com", 1)), impl.Change{Kind: 9})
	return whole[:len(l)]
}

func TestNoZoneIsWrittenInto(t *testing.T) {
	r := rand.New(rand.NewSource(65))
	zones := []impl.Zone{fullZone(40, 1), fullZone(41, 1), fullZone(1, mostCounter), {}, {Apex: "ex.com"}}
	for range 150 {
		z := goodRandomZone(r)
		zones = append(zones, z, damagedZone(r, z))
	}
	for i, z := range zones {
		l := []impl.Change{add(addressOf("z.ex.com", 1)), del(addressOf("n00.ex.com", 0)), not(addressOf("none.ex.com", 1))}
		if len(z.Records) > 0 {
			l = randomBatch(r, z, 12)
		}
		if i%5 == 0 {
			l = damagedBatch(r, l)
		}
		z.Records, l = withSpareRecords(z.Records), withSpareChanges(l)
		records, changes := z.Records[:cap(z.Records)], l[:cap(l)]
		recordsBefore, changesBefore := slices.Clone(records), slices.Clone(changes)
		checkZone(t, z)
		checkBatch(t, z, l)
		checkSetIn(t, z, "spare", 16)
		checkSetIn(t, z, z.Apex, 6)
		if !slices.Equal(records, recordsBefore) || !slices.Equal(changes, changesBefore) {
			t.Errorf("a zone or a batch was written into: %s, %s", shown(z), shown(l))
		}
	}
}

// What lies behind the lists of an answer in memory is nothing of the argument's.
func TestNothingIsHandedOutFromBehindAZone(t *testing.T) {
	z := zoneOf("ex.com", 3, addressOf("a.ex.com", 1), addressOf("a.ex.com", 2))
	z.Records = withSpareRecords(z.Records)
	changed, _ := impl.ApplyBatch(z, withSpareChanges([]impl.Change{del(addressOf("a.ex.com", 2))}))
	same, _ := impl.ApplyBatch(z, []impl.Change{{}})
	set, _ := impl.SetIn(z, "a.ex.com", 1)
	for _, l := range [][]impl.Record{changed.Records, same.Records, set} {
		for _, r := range l[:cap(l)][len(l):] {
			if r != (impl.Record{}) {
				t.Errorf("behind what is told stands %s", shown(r))
			}
		}
	}
}
