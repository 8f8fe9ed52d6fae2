package tests

import (
	"math"
	"math/rand"
	"slices"
	"strings"
	"testing"

	"loop.example/g00300/impl"
)

// checkCache tells whether the cache is good.
func checkCache(t *testing.T, c impl.Cache) bool {
	t.Helper()
	if impl.GoodCache(c) != wantGoodCache(c) {
		t.Errorf("GoodCache(%s) = %v", shown(c), !wantGoodCache(c))
	}
	want, ok := wantOldest(c)
	if got, good := impl.OldestIn(c); got != want || good != ok {
		t.Errorf("OldestIn(%s) = %d, %v; want %d, %v", shown(c), got, good, want, ok)
	}
	return wantGoodCache(c)
}

// checkPutAnswer tells whether the records were put.
func checkPutAnswer(t *testing.T, c impl.Cache, l []impl.Record) bool {
	t.Helper()
	want, ok := wantPutAnswer(c, l)
	if got, good := impl.PutAnswer(c, l); !alikeCaches(got, want) || good != ok {
		t.Errorf("PutAnswer(%s, %s) = %s, %v; want %s, %v", shown(c), shown(l), shown(got), good, shown(want), ok)
	}
	return ok
}

// checkPutNone tells whether it was put.
func checkPutNone(t *testing.T, c impl.Cache, name string, kind, ttl int) bool {
	t.Helper()
	want, ok := wantPutNone(c, name, kind, ttl)
	if got, good := impl.PutNone(c, name, kind, ttl); !alikeCaches(got, want) || good != ok {
		t.Errorf("PutNone(%s, %.80q, %d, %d) = %s, %v; want %s, %v", shown(c), name, kind, ttl, shown(got), good, shown(want), ok)
	}
	return ok
}

// checkAsk tells whether the entry is there.
func checkAsk(t *testing.T, c impl.Cache, name string, kind int) bool {
	t.Helper()
	want, told, ok := wantAsk(c, name, kind)
	if got, e, good := impl.AskCache(c, name, kind); !alikeCaches(got, want) || !alikeEntry(e, told) || good != ok {
		t.Errorf("AskCache(%s, %.80q, %d) = %s, %s, %v; want %s, %s, %v", shown(c), name, kind, shown(got), shown(e), good, shown(want), shown(told), ok)
	}
	return ok
}

// checkLess asks for what makes a cache less: time, and a name. It tells whether time would go beyond its end by a step that is one.
func checkLess(t *testing.T, c impl.Cache, by int, name string) bool {
	t.Helper()
	want, many, ok := wantPass(c, by)
	if got, gone, good := impl.PassTime(c, by); !alikeCaches(got, want) || gone != many || good != ok {
		t.Errorf("PassTime(%s, %d) = %s, %d, %v; want %s, %d, %v", shown(c), by, shown(got), gone, good, shown(want), many, ok)
	}
	want, many, ok = wantDrop(c, name)
	if got, gone, good := impl.DropBelow(c, name); !alikeCaches(got, want) || gone != many || good != ok {
		t.Errorf("DropBelow(%s, %.80q) = %s, %d, %v; want %s, %d, %v", shown(c), name, shown(got), gone, good, shown(want), many, ok)
	}
	return wantGoodCache(c) && by >= 1 && by <= mostStep && c.Now+by > mostTime
}

// randomStep leans on the edges of how much time may pass, and on when the entries of a cache are over.
func randomStep(r *rand.Rand, c impl.Cache) int {
	if len(c.Entries) > 0 && r.Intn(2) == 0 {
		return c.Entries[r.Intn(len(c.Entries))].Until - c.Now + r.Intn(3) - 1
	}
	return []int{0, 1, mostStep, mostStep + 1, 1 + r.Intn(mostStep), mostTime - c.Now, mostTime - c.Now + 1, randomInt(r)}[r.Intn(8)]
}

func TestCachesAnswerAtAnyArguments(t *testing.T) {
	r := rand.New(rand.NewSource(103))
	good, put, there, beyond := map[bool]int{}, map[bool]int{}, map[bool]int{}, map[bool]int{}
	sizes := map[int]int{}
	for range 400 {
		c := randomCache(r)
		sizes[len(c.Entries)]++
		other := damagedCache(r, c)
		l := randomAnswer(r)
		for _, tried := range []impl.Cache{c, other, damagedCache(r, other)} {
			good[checkCache(t, tried)]++
			put[checkPutAnswer(t, tried, l)]++
			put[checkPutAnswer(t, tried, damagedAnswer(r, l))]++
			name, kind := randomOwner(r)
			put[checkPutNone(t, tried, name, kind, 1+r.Intn(mostTtl))]++
			put[checkPutNone(t, tried, damaged(r, name), kind, 1)]++
			put[checkPutNone(t, tried, name, r.Intn(18), []int{0, 1, mostTtl, mostTtl + 1, randomInt(r)}[r.Intn(5)])]++
			there[checkAsk(t, tried, name, kind)]++
			there[checkAsk(t, tried, randomText(r), r.Intn(18))]++
			if many := len(tried.Entries); many > 0 {
				e := tried.Entries[r.Intn(many)]
				there[checkAsk(t, tried, e.Name, e.Type)]++
			}
			beyond[checkLess(t, tried, randomStep(r, tried), name)]++
			beyond[checkLess(t, tried, randomStep(r, tried), randomText(r))]++
		}
	}
	if min(good[true], good[false], put[true], put[false], there[true], there[false]) < 300 || min(beyond[true], beyond[false]) < 200 || sizes[20] < 50 {
		t.Error("the caches are all of one kind", good, put, there, beyond, sizes)
	}
}

// All caches of at most three entries about one moment, with all that makes one good or not in small numbers.
func TestAllSmallCaches(t *testing.T) {
	pool := []impl.Entry{noneOf("A", 1, 3, 1), noneOf("a", 3, 3, 1), noneOf("a", 1, 3, 3), noneOf("a", 1, 3, 0), {Name: "a", Type: 1, Until: 3, Used: 1}}
	for _, name := range []string{"", "a", "a.b"} {
		for _, kind := range []int{1, 16} {
			for until := 2; until < 5; until++ {
				pool = append(pool, noneOf(name, kind, until, until/2), entryOf(until, 1, impl.Record{Name: name, Type: kind, Ttl: 1, Data: "1.2.3.4"}))
			}
		}
	}
	good := map[bool]int{}
	check := func(l ...impl.Entry) {
		c := impl.Cache{Now: 2, Entries: l}
		good[checkCache(t, c)]++
		checkPutAnswer(t, c, answerOf("a", 2, 1, 2))
		checkPutNone(t, c, "a.b", 16, 1)
		checkAsk(t, c, "a", 1)
		checkLess(t, c, 1, "b")
		checkLess(t, c, 2, "a")
	}
	check()
	for i, a := range pool {
		check(a)
		for _, b := range pool {
			check(a, b)
			check(a, pool[(i*7+3)%len(pool)], b)
		}
	}
	if min(good[true], good[false]) < 300 {
		t.Error("the caches are all of one kind", good)
	}
}

func TestCachesAnswerAtWildArguments(t *testing.T) {
	long := strings.Repeat("a.", 1<<12)
	caches := []impl.Cache{{Now: 1}, cacheAt(5, noneOf("", 1, 6, 5), noneOf("ex.com", 16, 5+mostTtl, 1)), fullCache(mostTime, 20, alwaysAt(mostTime)), {}}
	numbers := []int{math.MinInt, math.MinInt + 1, -mostTime, -1, 0, 1, 5, 16, 20, mostTtl, mostTtl + 1, mostTime - 1, mostTime, mostTime + 1, mostTime + mostTtl, allSerials + 1, math.MaxInt - mostTtl, math.MaxInt - 1, math.MaxInt}
	for _, n := range numbers {
		for _, s := range []string{"", ".", "ex.com", "*", "\n", "\x00", "\xff", long} {
			tried := slices.Clone(caches)
			for _, l := range [][]impl.Record{nil, {}, {{}}, {{Name: s, Type: 16, Ttl: n, Data: s}}, {{Name: s, Type: 1, Ttl: 1, Data: "1.2.3.4"}}, {{Name: s, Type: n, Ttl: n}}, make([]impl.Record, 12), make([]impl.Record, 500)} {
				e := impl.Entry{Name: s, Type: 1, Records: l, Until: n, Used: n}
				also := impl.Entry{Name: s, Type: n, None: true, Records: l, Until: 6, Used: 5}
				tried = append(tried, cacheAt(n, e), cacheAt(n, also), cacheAt(5, e), cacheAt(5, also), impl.Cache{Now: 5, Entries: []impl.Entry{e, also}})
				for _, c := range caches {
					checkPutAnswer(t, c, l)
				}
			}
			for _, c := range tried {
				checkCache(t, c)
				checkPutAnswer(t, c, answerOf("ex.com", 1, 1))
				checkPutNone(t, c, s, 1, n)
				checkPutNone(t, c, s, n, 1)
				checkAsk(t, c, s, n)
				checkAsk(t, c, s, 1)
				checkLess(t, c, n, s)
			}
		}
		for _, l := range [][]impl.Entry{make([]impl.Entry, 1), make([]impl.Entry, 20), make([]impl.Entry, 21), make([]impl.Entry, 1<<12)} {
			c := impl.Cache{Now: n, Entries: l}
			checkCache(t, c)
			checkAsk(t, c, "", 0)
			checkLess(t, c, 1, "")
		}
	}
}

// freshEntry lies in memory of its own.
func freshEntry(e impl.Entry) impl.Entry {
	e.Name, e.Records = strings.Clone(e.Name), freshRecords(e.Records)
	return e
}

func freshCache(c impl.Cache) impl.Cache {
	fresh := impl.Cache{Now: c.Now, Entries: make([]impl.Entry, len(c.Entries))}
	for i, e := range c.Entries {
		fresh.Entries[i] = freshEntry(e)
	}
	return fresh
}

func textsOfEntries(l ...impl.Entry) []string {
	var texts []string
	for _, e := range l {
		texts = append(append(texts, e.Name), textsOfRecords(e.Records)...)
	}
	return texts
}

// entriesAsDiffs hands the lists of entries to what looks at the lists of one answer.
func entriesAsDiffs(l ...impl.Entry) []impl.Diff {
	var diffs []impl.Diff
	for _, e := range l {
		diffs = append(diffs, impl.Diff{Dels: e.Records})
	}
	return diffs
}

// wantEntriesApart looks at all lists of one answer, and at whether the entries' own names are apart from the records'.
func wantEntriesApart(t *testing.T, l ...impl.Entry) {
	t.Helper()
	wantDiffsApart(t, entriesAsDiffs(l...)...)
	for i, e := range l {
		for k, other := range l {
			texts := textsOfRecords(other.Records)
			if i != k {
				texts = append(texts, other.Name)
			}
			if len(e.Name) > 2 {
				wantApart(t, []string{e.Name}, texts...)
			}
		}
	}
}

func writeOverEntries(l []impl.Entry) {
	for _, e := range l {
		writeOver(e.Records, impl.Record{Name: "written"})
	}
	writeOver(l, impl.Entry{Name: "written", Until: -7})
}

func TestCacheAnswersShareNoMemory(t *testing.T) {
	r := rand.New(rand.NewSource(104))
	several := 0
	for range 250 {
		c := freshCache(randomCache(r))
		l := freshRecords(randomAnswer(r))
		name, kind := randomOwner(r)
		name = strings.Clone(name)
		if len(c.Entries) > 0 {
			e := c.Entries[r.Intn(len(c.Entries))]
			name, kind = e.Name, e.Type
		}
		cacheBefore, listBefore := freshCache(c), freshRecords(l)
		given := slices.Concat(textsOfEntries(c.Entries...), textsOfRecords(l), []string{name})

		answered, _ := impl.PutAnswer(c, l)
		none, _ := impl.PutNone(c, name, kind, 9)
		asked, told, there := impl.AskCache(c, name, kind)
		again, toldAgain, _ := impl.AskCache(c, name, kind)
		passed, _, _ := impl.PassTime(c, 1)
		dropped, _, _ := impl.DropBelow(c, name)
		if len(answered.Entries) == 0 || len(none.Entries) == 0 || there != (len(c.Entries) > 0) {
			t.Fatal("nothing is told", shown(c))
		}
		several += min(1, len(told.Records)/2)
		againBefore, toldBefore := freshCache(again), freshEntry(toldAgain)
		for _, made := range []impl.Cache{answered, none, asked, passed, dropped} {
			wantApart(t, textsOfEntries(made.Entries...), given...)
			wantEntriesApart(t, made.Entries...)
		}
		wantApart(t, textsOfEntries(told), given...)
		// The entry that is told and the cache are one answer.
		wantEntriesApart(t, append(slices.Clone(asked.Entries), told)...)
		for _, made := range []impl.Cache{answered, none, asked, passed, dropped} {
			writeOverEntries(made.Entries)
		}
		writeOver(told.Records, impl.Record{Name: "written"})
		if !alikeCaches(again, againBefore) || !alikeEntry(toldAgain, toldBefore) {
			t.Errorf("an answer shares memory with one told ahead: %s, %s", shown(again), shown(toldAgain))
		}
		if !alikeCaches(c, cacheBefore) || !slices.Equal(l, listBefore) {
			t.Errorf("an answer shares memory with %s or %s", shown(cacheBefore), shown(listBefore))
		}
	}
	if several < 50 {
		t.Error("nearly none has several records", several)
	}
}

func TestNewCachesAreNewEachTime(t *testing.T) {
	one, two := impl.NewCache(), impl.NewCache()
	one.Entries = append(one.Entries, noneOf("ex.com", 1, 2, 1))
	if !alikeCaches(two, impl.Cache{Now: 1}) || cap(two.Entries) > 0 {
		t.Error(shown(two))
	}
}

// Records that lie in one memory when they are handed in are apart in the answer.
func TestEntriesOfOneMemoryAreTwo(t *testing.T) {
	l := freshRecords(answerOf("a.ex.com", 60, upTo(12)...))
	c, ok := impl.PutAnswer(cacheAt(5, entryOf(60, 5, l[2:9]...), noneOf("b.ex.com", 1, 9, 2)), l[4:])
	if !ok || !alikeCaches(c, cacheAt(5, entryOf(65, 5, l[4:]...), noneOf("b.ex.com", 1, 9, 2))) {
		t.Error(shown(c), ok)
	}
	wantApart(t, textsOfEntries(c.Entries...), textsOfRecords(l)...)
	// One and the same text as the names of all.
	name := strings.Clone("some.ex.com")
	same := cacheAt(5, entryOf(60, 4, answerOf(name, 7, 1, 2)...), noneOf(name, 16, 70, 3))
	asked, told, ok := impl.AskCache(same, name, 1)
	if !ok {
		t.Error("nothing is told")
	}
	wantEntriesApart(t, append(slices.Clone(asked.Entries), told)...)
	wantApart(t, textsOfEntries(append(slices.Clone(asked.Entries), told)...), name)
	// What is told has other Ttls, in the cache they stay.
	if told.Records[0].Ttl != 55 || asked.Entries[0].Records[0].Ttl != 7 || same.Entries[0].Records[0].Ttl != 7 {
		t.Error(shown(told), shown(asked), shown(same))
	}
}

// withSpareEntries puts entries behind a cache's, of which the first would be told, and records behind the lists of all.
func withSpareEntries(c impl.Cache) impl.Cache {
	var l []impl.Entry
	for _, e := range c.Entries {
		e.Records = withSpareRecords(e.Records)
		l = append(l, e)
	}
	spare := noneOf("zz.spare", 16, c.Now+1, 1)
	c.Entries = append(l, spare, impl.Entry{Name: "bad..spare"})[:len(l)]
	return c
}

// wholeEntries has each list up to its end in memory.
func wholeEntries(l []impl.Entry) []impl.Entry {
	whole := slices.Clone(l[:cap(l)])
	for i, e := range whole {
		whole[i].Records = slices.Clone(e.Records[:cap(e.Records)])
	}
	return whole
}

func TestNoCacheIsWrittenInto(t *testing.T) {
	r := rand.New(rand.NewSource(105))
	caches := []impl.Cache{{}, {Now: 1}, fullCache(50, 20, alwaysAt(50)), fullCache(50, 21, alwaysAt(50)), fullCache(mostTime, 20, alwaysAt(1))}
	for range 100 {
		c := randomCache(r)
		caches = append(caches, c, damagedCache(r, c))
	}
	for i, c := range caches {
		c = withSpareEntries(c)
		l := randomAnswer(r)
		if i%5 == 0 {
			l = damagedAnswer(r, l)
		}
		l = withSpareRecords(l)
		entriesBefore, listBefore := wholeEntries(c.Entries), slices.Clone(l[:cap(l)])
		name, kind := randomOwner(r)
		checkCache(t, c)
		checkPutAnswer(t, c, l)
		checkPutNone(t, c, name, kind, 7)
		checkAsk(t, c, name, kind)
		checkAsk(t, c, "zz.spare", 16)
		for _, e := range c.Entries {
			checkAsk(t, c, e.Name, e.Type)
		}
		checkLess(t, c, randomStep(r, c), name)
		checkLess(t, c, 1, "")
		if !alikeEntries(wholeEntries(c.Entries), entriesBefore) || !slices.Equal(l[:cap(l)], listBefore) {
			t.Errorf("a cache or a list was written into: %s, %s", shown(c), shown(l))
		}
	}
}

// What lies behind a list's length is neither looked at nor handed out: neither records nor entries.
func TestNothingIsToldFromBehindCaches(t *testing.T) {
	a, b := entryOf(60, 4, answerOf("a.ex.com", 7, 1, 2, 3)...), noneOf("b.ex.com", 1, 7, 1)
	c := withSpareEntries(cacheAt(5, a, b))
	wantCacheGood(t, c)
	wantNotToldBy(t, c, "zz.spare", 16)
	wantOldestIs(t, c, 1)
	wantDropped(t, c, "spare", 0, a, b)
	l := withSpareRecords(answerOf("c.ex.com", 9, 1, 2))
	wantCached(t, c, l, a, b, entryOf(14, 5, answerOf("c.ex.com", 9, 1, 2)...))
	answered, _ := impl.PutAnswer(c, l)
	instead, _ := impl.PutAnswer(c, withSpareRecords(answerOf("a.ex.com", 9, 1)))
	none, _ := impl.PutNone(c, "a.ex.com", 1, 3)
	asked, told, _ := impl.AskCache(c, "a.ex.com", 1)
	passed, _, _ := impl.PassTime(c, 2)
	dropped, _, _ := impl.DropBelow(c, "a.ex.com")
	thrown, _ := impl.PutNone(withSpareEntries(fullCache(50, 20, alwaysAt(3))), "", 1, 9)
	for _, made := range []impl.Cache{answered, instead, none, asked, passed, dropped, thrown, {Entries: []impl.Entry{told}}} {
		for _, e := range made.Entries[:cap(made.Entries)][len(made.Entries):] {
			if !alikeEntry(e, impl.Entry{}) {
				t.Errorf("behind the entries that are told stands %s", shown(e))
			}
		}
		for _, e := range made.Entries {
			for _, r := range e.Records[:cap(e.Records)][len(e.Records):] {
				if r != (impl.Record{}) {
					t.Errorf("behind what is told stands %s", shown(r))
				}
			}
		}
	}
}

// What is told does not hang on the order in which entries are gone through inside.
func TestCachesAreToldAlikeEachTime(t *testing.T) {
	c := fullCache(50, 20, func(i int) int { return 1 + i%3 })
	for range 200 {
		checkPutNone(t, c, "zz.ex.com", 1, 9)
		checkPutAnswer(t, c, answerOf("", 9, 1, 2))
		checkAsk(t, c, nthName(7), 1)
		checkLess(t, c, 99, nthName(7))
	}
}
