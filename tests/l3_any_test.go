package tests

import (
	"math"
	"math/rand"
	"slices"
	"strings"
	"testing"

	"loop.example/g00300/impl"
)

func checkRecord(t *testing.T, r impl.Record) {
	t.Helper()
	if impl.GoodRecord(r) != wantGoodRecord(r) {
		t.Errorf("GoodRecord(%s) = %v", shown(r), !wantGoodRecord(r))
	}
	text, ok := wantRecordText(r)
	if s, good := impl.RecordText(r); s != text || good != ok {
		t.Errorf("RecordText(%s) = %q, %v; want %q, %v", shown(r), s, good, text, ok)
	}
	target, ok := wantTarget(r)
	if s, good := impl.TargetOf(r); s != target || good != ok {
		t.Errorf("TargetOf(%s) = %q, %v; want %q, %v", shown(r), s, good, target, ok)
	}
	b, ok := wantDataBytes(r.Type, r.Data)
	if s, good := impl.DataBytes(r.Type, r.Data); s != b || good != ok {
		t.Errorf("DataBytes(%d, %q) = %q, %v; want %q, %v", r.Type, r.Data, s, good, b, ok)
	}
}

func checkRecordText(t *testing.T, s string) {
	t.Helper()
	want, ok := wantRecordFrom(s)
	if r, good := impl.ReadRecord(s); r != want || good != ok {
		t.Errorf("ReadRecord(%q) = %s, %v; want %s, %v", s, shown(r), good, shown(want), ok)
	}
}

func checkDataBytes(t *testing.T, kind int, b string) {
	t.Helper()
	want, ok := wantDataFrom(kind, b)
	if data, good := impl.ReadData(kind, b); data != want || good != ok {
		t.Errorf("ReadData(%d, %q) = %q, %v; want %q, %v", kind, b, data, good, want, ok)
	}
}

func checkRecordPair(t *testing.T, a, b impl.Record) {
	t.Helper()
	want, ok := wantRecordOrder(a, b)
	if n, good := impl.CompareRecords(a, b); n != want || good != ok {
		t.Errorf("CompareRecords(%s, %s) = %d, %v; want %d, %v", shown(a), shown(b), n, good, want, ok)
	}
}

func checkSets(t *testing.T, l []impl.Set) {
	t.Helper()
	want, ok := wantRecords(l)
	if records, good := impl.RecordsOf(l); !slices.Equal(records, want) || good != ok {
		t.Errorf("RecordsOf(%s) = %s, %v; want %s, %v", shown(l), shown(records), good, shown(want), ok)
	}
}

// damaged puts one byte in, takes one away, or changes one.
func damaged(r *rand.Rand, s string) string {
	at := r.Intn(len(s) + 1)
	one := string([]byte{" .0*-a\x00\x01\xc0A1"[r.Intn(11)]})
	switch {
	case r.Intn(3) == 0:
		return s[:at] + one + s[at:]
	case at == len(s):
		return s
	case r.Intn(2) == 0:
		return s[:at] + s[at+1:]
	}
	return s[:at] + one + s[at+1:]
}

// damagedSets changes one thing about sets that are as said; the sets handed in stay as they are.
func damagedSets(r *rand.Rand, l []impl.Set) []impl.Set {
	l = slices.Clone(l)
	if len(l) == 0 {
		return []impl.Set{{}}
	}
	at, other := r.Intn(len(l)), r.Intn(len(l))
	l[at].Data = slices.Clone(l[at].Data)
	place := r.Intn(len(l[at].Data))
	switch r.Intn(9) {
	case 0:
		l[at], l[other] = l[other], l[at]
	case 1:
		l = slices.Insert(l, at, l[at])
	case 2:
		l[at].Data = nil
	case 3:
		l[at].Data[0], l[at].Data[place] = l[at].Data[place], l[at].Data[0]
	case 4:
		l[at].Data = slices.Insert(l[at].Data, place, l[at].Data[place])
	case 5:
		l[at].Data[place] = damaged(r, l[at].Data[place])
	case 6:
		l[at].Name = damaged(r, l[at].Name)
	case 7:
		l[at].Type = sixTypes[r.Intn(6)]
	case 8:
		l[at].Ttl = r.Intn(200000) - 50000
	}
	return l
}

func TestRecordsAnswerAtAnyArguments(t *testing.T) {
	r := rand.New(rand.NewSource(8))
	for range 10000 {
		a, b := randomRecord(r), randomRecord(r)
		if r.Intn(3) == 0 {
			b.Name, b.Type, b.Data = a.Name, a.Type, a.Data
		}
		checkRecord(t, a)
		checkRecordPair(t, a, b)
		checkRecordText(t, randomText(r))
		checkDataBytes(t, r.Intn(18), randomWire(r))
		good := goodRandomRecord(r)
		text, _ := wantRecordText(good)
		checkRecordText(t, damaged(r, text))
		bytes, _ := wantDataBytes(good.Type, good.Data)
		checkDataBytes(t, good.Type, damaged(r, bytes))
		checkDataBytes(t, sixTypes[r.Intn(6)], bytes)
	}
	for range 2000 {
		l := goodRandomRecords(r, 70)
		if len(l) > 0 && r.Intn(3) == 0 {
			l[r.Intn(len(l))] = randomRecord(r)
		}
		want, ok := wantSets(l)
		if sets, good := impl.SetsOf(l); !alikeSets(sets, want) || good != ok {
			t.Errorf("SetsOf(%s) = %s, %v; want %s, %v", shown(l), shown(sets), good, shown(want), ok)
		}
		checkSets(t, want)
		checkSets(t, damagedSets(r, want))
	}
}

func TestRecordsAnswerAtWildArguments(t *testing.T) {
	long := strings.Repeat("1.", 1<<18)
	for _, kind := range append([]int{math.MinInt, -1, 0, 3, 17, math.MaxInt}, sixTypes...) {
		for _, ttl := range []int{math.MinInt, -1, 0, 100000, 100001, math.MaxInt} {
			for _, s := range []string{"", "\x00", "\xff\xff", ".", " ", "*", "1.2.3.4", "1", "1 a", "a", long} {
				one := impl.Record{Name: s, Type: kind, Ttl: ttl, Data: s}
				checkRecord(t, one)
				checkRecordPair(t, one, recordOf(16, ""))
				checkDataBytes(t, kind, s)
				checkSets(t, []impl.Set{{Name: s, Type: kind, Ttl: ttl, Data: []string{s}}})
				checkSets(t, []impl.Set{{Name: s, Type: kind, Ttl: ttl}})
				checkSets(t, []impl.Set{{Name: "a", Type: kind, Ttl: ttl, Data: make([]string, 1000)}})
			}
		}
	}
	checkRecordText(t, long)
	checkRecordText(t, strings.ReplaceAll(long, ".", " "))
}

// All texts of at most four bytes over bytes that the types tell apart, as data and as bytes of each.
func TestSmallDataOfEachType(t *testing.T) {
	for _, s := range textsOver("\x00\x01\x03 01.*aA\xc0", 4) {
		for _, kind := range sixTypes {
			b, ok := wantDataBytes(kind, s)
			if got, good := impl.DataBytes(kind, s); got != b || good != ok {
				t.Errorf("DataBytes(%d, %q) = %q, %v", kind, s, got, good)
			}
			checkDataBytes(t, kind, s)
			checkDataBytes(t, kind, "\x00"+s)
			checkDataBytes(t, kind, s+"\x00")
		}
	}
}

// freshRecord lies in memory of its own.
func freshRecord(r impl.Record) impl.Record {
	r.Name, r.Data = strings.Clone(r.Name), strings.Clone(r.Data)
	return r
}

func wantApart(t *testing.T, told []string, given ...string) {
	t.Helper()
	for _, a := range told {
		for _, b := range given {
			if shareBytes(a, b) {
				t.Errorf("%q, told of %q, lies in it", a, b)
			}
		}
	}
}

func TestRecordAnswersShareNoTextWithArguments(t *testing.T) {
	for kind, pairs := range goodData() {
		for _, pair := range pairs {
			r := freshRecord(recordOf(kind, pair[0]))
			text, _ := impl.RecordText(r)
			target, _ := impl.TargetOf(r)
			b, _ := impl.DataBytes(kind, r.Data)
			wantApart(t, []string{text, target, b}, r.Name, r.Data)
			read, _ := impl.ReadRecord(text)
			wantApart(t, []string{read.Name, read.Data}, text)
			data, _ := impl.ReadData(kind, b)
			wantApart(t, []string{data}, b)
		}
	}
}

func textsOfSets(l []impl.Set) []string {
	var texts []string
	for _, set := range l {
		texts = append(append(texts, set.Name), set.Data...)
	}
	return texts
}

func textsOfRecords(l []impl.Record) []string {
	var texts []string
	for _, r := range l {
		texts = append(texts, r.Name, r.Data)
	}
	return texts
}

func TestSetsShareNoTextWithArguments(t *testing.T) {
	r := rand.New(rand.NewSource(9))
	for range 20 {
		l := goodRandomRecords(r, 60)
		for i := range l {
			l[i] = freshRecord(l[i])
		}
		sets, _ := impl.SetsOf(l)
		wantApart(t, textsOfSets(sets), textsOfRecords(l)...)
		records, _ := impl.RecordsOf(sets)
		wantApart(t, textsOfRecords(records), textsOfSets(sets)...)
	}
}

// What is written into an answer, or put behind one of its lists, is seen in no other list.
func TestListsOfSetsAreApart(t *testing.T) {
	l := []impl.Record{{Name: "a", Type: 16, Data: "x"}, {Name: "b", Type: 16, Data: "y"}, {Name: "a", Type: 16, Data: "z"}, {Name: "c", Type: 16}}
	before := slices.Clone(l)
	sets, _ := impl.SetsOf(l)
	again, _ := impl.SetsOf(l)
	want, _ := wantSets(l)
	for i := range sets {
		whole := sets[i].Data[:cap(sets[i].Data)]
		for k := range whole {
			whole[k] = "written"
		}
		for k := range sets {
			if k > i && !slices.Equal(sets[k].Data, want[k].Data) {
				t.Errorf("set %d shares memory with set %d", i, k)
			}
		}
	}
	if !slices.Equal(l, before) || !alikeSets(again, want) {
		t.Error("SetsOf answers the argument's memory", l, again)
	}
	records, _ := impl.RecordsOf(again)
	for i := range records {
		records[i] = impl.Record{Name: "written"}
	}
	if !alikeSets(again, want) {
		t.Error("RecordsOf answers the argument's memory", again)
	}
}

func TestNoRecordIsWrittenInto(t *testing.T) {
	r := rand.New(rand.NewSource(10))
	lists := [][]impl.Record{nil, manyOfOne(60), manyOfOne(61), manyRecords(40), manyRecords(41), {recordOf(1, "bad"), recordOf(16, "")}, {recordOf(16, "b"), recordOf(16, "a"), recordOf(16, "a")}}
	for range 50 {
		lists = append(lists, goodRandomRecords(r, 20))
	}
	for _, l := range lists {
		whole := append(slices.Clone(l), recordOf(16, "spare"), impl.Record{Name: "bad..spare"})
		before := slices.Clone(whole)
		want, ok := wantSets(l)
		if sets, good := impl.SetsOf(whole[:len(l)]); !alikeSets(sets, want) || good != ok {
			t.Errorf("SetsOf reads behind the list's length: %s, %v", shown(sets), good)
		}
		if !slices.Equal(whole, before) {
			t.Errorf("a list of %d was written into", len(l))
		}
	}
}

// withSpareSets puts a set behind the list's length, and data behind that of each set.
func withSpareSets(l []impl.Set) []impl.Set {
	spare := append(slices.Clone(l), impl.Set{Name: "bad..spare"})
	for i := range l {
		data, _ := withSpare(l[i].Data)
		spare[i].Data = data
	}
	return spare
}

// wholeSets has each list up to its end in memory.
func wholeSets(l []impl.Set) []impl.Set {
	whole := slices.Clone(l[:cap(l)])
	for i := range whole {
		whole[i].Data = slices.Clone(whole[i].Data[:cap(whole[i].Data)])
	}
	return whole
}

func TestNoSetIsWrittenInto(t *testing.T) {
	r := rand.New(rand.NewSource(11))
	for i := range 200 {
		want, _ := wantSets(goodRandomRecords(r, 30))
		if i%2 == 1 {
			want = damagedSets(r, want)
		}
		spare := withSpareSets(want)
		before := wholeSets(spare)
		records, ok := wantRecords(want)
		if got, good := impl.RecordsOf(spare[:len(want)]); !slices.Equal(got, records) || good != ok {
			t.Errorf("RecordsOf reads behind the list's length: %s, %v", shown(got), good)
		}
		if !alikeSets(wholeSets(spare), before) {
			t.Errorf("sets were written into: %s", shown(spare))
		}
	}
}
