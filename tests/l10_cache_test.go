package tests

import (
	"fmt"
	"math"
	"math/rand"
	"slices"
	"strings"
	"testing"

	"loop.example/g00300/impl"
)

// answerOf are TypeA records that may be put into a cache together.
func answerOf(name string, ttl int, lasts ...int) []impl.Record {
	var l []impl.Record
	for _, last := range lasts {
		l = append(l, withTtl(addressOf(name, last), ttl))
	}
	return l
}

// upTo are so many numbers that rise, for addresses.
func upTo(many int) []int {
	var l []int
	for i := range many {
		l = append(l, i)
	}
	return l
}

// entryOf has these records' name and type.
func entryOf(until, used int, l ...impl.Record) impl.Entry {
	return impl.Entry{Name: l[0].Name, Type: l[0].Type, Records: l, Until: until, Used: used}
}

func noneOf(name string, kind, until, used int) impl.Entry {
	return impl.Entry{Name: name, Type: kind, None: true, Until: until, Used: used}
}

// nthName is the name of an entry of a full cache; the names rise.
func nthName(i int) string {
	return fmt.Sprintf("n%02d.ex.com", i)
}

// fullCache has so many entries, from the first to the last of these names; how each is Used is told.
func fullCache(now, many int, used func(int) int) impl.Cache {
	var l []impl.Entry
	for i := range many {
		l = append(l, noneOf(nthName(i), 1, now+100, used(i)))
	}
	return cacheAt(now, l...)
}

func alwaysAt(used int) func(int) int {
	return func(int) int { return used }
}

func wantCacheGood(t *testing.T, c impl.Cache) {
	t.Helper()
	if !impl.GoodCache(c) {
		t.Errorf("GoodCache(%s) = false", shown(c))
	}
}

// wantCacheBad asks of all functions that take a cache; what else they are given would do.
func wantCacheBad(t *testing.T, c impl.Cache) {
	t.Helper()
	if impl.GoodCache(c) {
		t.Errorf("GoodCache(%s) = true", shown(c))
	}
	wantNotCached(t, c, answerOf("ex.com", 60, 1))
	wantNoneNotCached(t, c, "ex.com", 1, 60)
	for _, e := range slices.Concat(c.Entries, []impl.Entry{noneOf("ex.com", 1, 0, 0)}) {
		wantNotToldBy(t, c, e.Name, e.Type)
		wantNothingDropped(t, c, e.Name)
	}
	wantNothingDropped(t, c, "")
	wantNoTimePassed(t, c, 1)
	wantNoTimePassed(t, c, 100000)
	if got, ok := impl.OldestIn(c); got != 0 || ok {
		t.Errorf("OldestIn(%s) = %d, %v; want the zero answer", shown(c), got, ok)
	}
}

func wantCached(t *testing.T, c impl.Cache, l []impl.Record, want ...impl.Entry) impl.Cache {
	t.Helper()
	after := cacheAt(c.Now, want...)
	got, ok := impl.PutAnswer(c, l)
	if !alikeCaches(got, after) || !ok {
		t.Errorf("PutAnswer(%s, %s) = %s, %v; want %s", shown(c), shown(l), shown(got), ok, shown(after))
	}
	wantCacheGood(t, got)
	return after
}

func wantNotCached(t *testing.T, c impl.Cache, l []impl.Record) {
	t.Helper()
	if got, ok := impl.PutAnswer(c, l); !alikeCaches(got, impl.Cache{}) || ok {
		t.Errorf("PutAnswer(%s, %s) = %s, %v; want the zero answer", shown(c), shown(l), shown(got), ok)
	}
}

func wantNoneCached(t *testing.T, c impl.Cache, name string, kind, ttl int, want ...impl.Entry) impl.Cache {
	t.Helper()
	after := cacheAt(c.Now, want...)
	got, ok := impl.PutNone(c, name, kind, ttl)
	if !alikeCaches(got, after) || !ok {
		t.Errorf("PutNone(%s, %q, %d, %d) = %s, %v; want %s", shown(c), name, kind, ttl, shown(got), ok, shown(after))
	}
	wantCacheGood(t, got)
	return after
}

func wantNoneNotCached(t *testing.T, c impl.Cache, name string, kind, ttl int) {
	t.Helper()
	if got, ok := impl.PutNone(c, name, kind, ttl); !alikeCaches(got, impl.Cache{}) || ok {
		t.Errorf("PutNone(%s, %.80q, %d, %d) = %s, %v; want the zero answer", shown(c), name, kind, ttl, shown(got), ok)
	}
}

// wantToldBy asks for the entry that is told, and that nothing but its Used is another one in the cache then.
func wantToldBy(t *testing.T, c impl.Cache, told impl.Entry) impl.Cache {
	t.Helper()
	after := impl.Cache{Now: c.Now, Entries: slices.Clone(c.Entries)}
	for i, e := range after.Entries {
		if e.Name == told.Name && e.Type == told.Type {
			after.Entries[i].Used = c.Now
		}
	}
	got, e, ok := impl.AskCache(c, told.Name, told.Type)
	if !alikeEntry(e, told) || !alikeCaches(got, after) || !ok {
		t.Errorf("AskCache(%s, %q, %d) = %s, %s, %v; want %s, %s", shown(c), told.Name, told.Type, shown(got), shown(e), ok, shown(after), shown(told))
	}
	wantCacheGood(t, got)
	return after
}

func wantNotToldBy(t *testing.T, c impl.Cache, name string, kinds ...int) {
	t.Helper()
	for _, kind := range kinds {
		if got, e, ok := impl.AskCache(c, name, kind); !alikeCaches(got, impl.Cache{}) || !alikeEntry(e, impl.Entry{}) || ok {
			t.Errorf("AskCache(%s, %.80q, %d) = %s, %s, %v; want the zero answer", shown(c), name, kind, shown(got), shown(e), ok)
		}
	}
}

func wantTimePassed(t *testing.T, c impl.Cache, by, now, gone int, left ...impl.Entry) impl.Cache {
	t.Helper()
	after := cacheAt(now, left...)
	got, many, ok := impl.PassTime(c, by)
	if !alikeCaches(got, after) || many != gone || !ok {
		t.Errorf("PassTime(%s, %d) = %s, %d, %v; want %s, %d", shown(c), by, shown(got), many, ok, shown(after), gone)
	}
	wantCacheGood(t, got)
	return after
}

func wantNoTimePassed(t *testing.T, c impl.Cache, by int) {
	t.Helper()
	if got, many, ok := impl.PassTime(c, by); !alikeCaches(got, impl.Cache{}) || many != 0 || ok {
		t.Errorf("PassTime(%s, %d) = %s, %d, %v; want the zero answer", shown(c), by, shown(got), many, ok)
	}
}

func wantDropped(t *testing.T, c impl.Cache, name string, gone int, left ...impl.Entry) {
	t.Helper()
	after := cacheAt(c.Now, left...)
	if got, many, ok := impl.DropBelow(c, name); !alikeCaches(got, after) || many != gone || !ok {
		t.Errorf("DropBelow(%s, %q) = %s, %d, %v; want %s, %d", shown(c), name, shown(got), many, ok, shown(after), gone)
	}
}

func wantNothingDropped(t *testing.T, c impl.Cache, name string) {
	t.Helper()
	if got, many, ok := impl.DropBelow(c, name); !alikeCaches(got, impl.Cache{}) || many != 0 || ok {
		t.Errorf("DropBelow(%s, %.80q) = %s, %d, %v; want the zero answer", shown(c), name, shown(got), many, ok)
	}
}

func wantOldestIs(t *testing.T, c impl.Cache, used int) {
	t.Helper()
	if got, ok := impl.OldestIn(c); got != used || !ok {
		t.Errorf("OldestIn(%s) = %d, %v; want %d", shown(c), got, ok, used)
	}
}

func TestCacheConstants(t *testing.T) {
	if impl.MaxCached != 20 {
		t.Error(impl.MaxCached)
	}
}

func TestANewCache(t *testing.T) {
	c := impl.NewCache()
	if !alikeCaches(c, impl.Cache{Now: 1}) {
		t.Error(shown(c))
	}
	wantCacheGood(t, c)
	wantCacheBad(t, impl.Cache{})
	wantNotToldBy(t, c, "", sixTypes...)
	wantNotToldBy(t, c, "ex.com", sixTypes...)
	wantDropped(t, c, "", 0)
	wantTimePassed(t, c, 1, 2, 0)
	if got, ok := impl.OldestIn(c); got != 0 || ok {
		t.Error(got, ok)
	}
}

func TestTimesOfCaches(t *testing.T) {
	for _, now := range []int{1, 2, 100000, 100001, mostTime / 2, mostTime - 1, mostTime} {
		wantCacheGood(t, cacheAt(now))
		wantCacheGood(t, impl.Cache{Now: now, Entries: []impl.Entry{}})
		wantCacheGood(t, cacheAt(now, noneOf("ex.com", 1, now+1, now), entryOf(now+mostTtl, 1, answerOf("ex.net", 60, 1)...)))
	}
	for _, now := range []int{0, -1, -mostTime, mostTime + 1, mostTime + 2, 2 * mostTime, allSerials + 1, math.MaxInt, math.MaxInt - 1, math.MaxInt - mostTtl, math.MinInt, math.MinInt + 1} {
		wantCacheBad(t, cacheAt(now))
		wantCacheBad(t, impl.Cache{Now: now, Entries: []impl.Entry{}})
		wantCacheBad(t, cacheAt(now, noneOf("ex.com", 1, now+1, now)))
		wantCacheBad(t, cacheAt(now, noneOf("ex.com", 1, now+1, 1)))
		wantCacheBad(t, cacheAt(now, noneOf("ex.com", 1, 2, 1)))
	}
}

func TestHowManyEntriesACacheHas(t *testing.T) {
	for _, many := range []int{0, 1, 2, 19, 20} {
		wantCacheGood(t, fullCache(5, many, alwaysAt(5)))
		wantCacheGood(t, fullCache(mostTime, many, alwaysAt(1)))
	}
	for _, many := range []int{21, 22, 40} {
		wantCacheBad(t, fullCache(5, many, alwaysAt(5)))
	}
	wantCacheBad(t, impl.Cache{Now: 5, Entries: make([]impl.Entry, 20)})
	wantCacheBad(t, impl.Cache{Now: 5, Entries: make([]impl.Entry, 21)})
	if impl.GoodCache(impl.Cache{Now: 5, Entries: make([]impl.Entry, 1<<20)}) {
		t.Error("so many entries are good")
	}
	// All of one name: there are no more types than six.
	var l []impl.Entry
	for _, kind := range sixTypes {
		l = append(l, noneOf("ex.com", kind, 6, 5))
	}
	wantCacheGood(t, impl.Cache{Now: 5, Entries: l})
}

func TestEntriesInOrder(t *testing.T) {
	of := func(name string, kind int) impl.Entry { return noneOf(name, kind, 10, 3) }
	l := []impl.Entry{
		of("", 1), of("", 16), of("com", 2), of("com", 15), of("aex.com", 1), of("ex.com", 1), of("ex.com", 2), of("ex.com", 5), of("ex.com", 6), of("ex.com", 15), of("ex.com", 16),
		of("*.ex.com", 1), of("a.ex.com", 1), of("z.a.ex.com", 1), of("b.ex.com", 1), of("net", 1),
	}
	wantCacheGood(t, impl.Cache{Now: 5, Entries: l})
	for i := range l {
		for k := range i {
			wantCacheGood(t, impl.Cache{Now: 5, Entries: []impl.Entry{l[k], l[i]}})
			wantCacheBad(t, impl.Cache{Now: 5, Entries: []impl.Entry{l[i], l[k]}})
			swapped := slices.Clone(l)
			swapped[i], swapped[k] = swapped[k], swapped[i]
			wantCacheBad(t, impl.Cache{Now: 5, Entries: swapped})
		}
		wantCacheBad(t, impl.Cache{Now: 5, Entries: slices.Insert(slices.Clone(l), i, l[i])})
	}
	// Two of both alike, whatever else differs.
	a := entryOf(10, 3, answerOf("ex.com", 7, 1)...)
	for _, other := range []impl.Entry{a, of("ex.com", 1), entryOf(10, 3, answerOf("ex.com", 7, 2)...), entryOf(11, 4, answerOf("ex.com", 8, 1)...)} {
		wantCacheBad(t, impl.Cache{Now: 5, Entries: []impl.Entry{a, other}})
		wantCacheBad(t, impl.Cache{Now: 5, Entries: []impl.Entry{other, a}})
	}
}

func TestNamesAndTypesOfEntries(t *testing.T) {
	for _, name := range goodNames() {
		wantCacheGood(t, cacheAt(5, noneOf(name, 1, 10, 3)))
		wantCacheGood(t, cacheAt(5, entryOf(10, 3, answerOf(name, 7, 1)...)))
	}
	for _, name := range badNames() {
		wantCacheBad(t, cacheAt(5, noneOf(name, 1, 10, 3)))
		wantCacheBad(t, cacheAt(5, entryOf(10, 3, answerOf(name, 7, 1)...)))
	}
	for _, kind := range sixTypes {
		wantCacheGood(t, cacheAt(5, noneOf("ex.com", kind, 10, 3)))
		for _, pair := range goodData()[kind] {
			wantCacheGood(t, cacheAt(5, entryOf(10, 3, recordOf(kind, pair[0]))))
		}
	}
	for _, kind := range []int{0, 3, 4, 7, 14, 17, 28, -1, 257, allSerials + 1, math.MaxInt, math.MinInt} {
		wantCacheBad(t, cacheAt(5, noneOf("ex.com", kind, 10, 3)))
		wantCacheBad(t, cacheAt(5, entryOf(10, 3, recordOf(kind, "1.2.3.4"))))
		wantCacheBad(t, cacheAt(5, noneOf("a.com", 1, 10, 3), noneOf("b.com", kind, 10, 3), noneOf("c.com", 1, 10, 3)))
	}
}

func TestUntilOfEntries(t *testing.T) {
	for _, now := range []int{1, 5, 100000, mostTime - 1, mostTime} {
		for _, until := range []int{now + 1, now + 2, now + 500, now + mostTtl - 1, now + mostTtl} {
			wantCacheGood(t, cacheAt(now, noneOf("ex.com", 1, until, 1)))
			// How long the records themselves may be kept is nothing to the entry.
			for _, ttl := range []int{0, 1, 60, mostTtl} {
				wantCacheGood(t, cacheAt(now, entryOf(until, 1, answerOf("ex.com", ttl, 1, 2)...)))
			}
		}
		for _, until := range []int{now, now - 1, 0, -1, now + mostTtl + 1, now + 2*mostTtl, math.MaxInt, math.MaxInt - mostTtl, math.MinInt, -now} {
			wantCacheBad(t, cacheAt(now, noneOf("ex.com", 1, until, 1)))
			wantCacheBad(t, cacheAt(now, entryOf(until, 1, answerOf("ex.com", 60, 1, 2)...)))
			wantCacheBad(t, cacheAt(now, noneOf("a.com", 1, now+1, 1), noneOf("b.com", 1, until, 1), noneOf("c.com", 1, now+1, 1)))
		}
	}
}

func TestUsedOfEntries(t *testing.T) {
	for _, now := range []int{1, 2, 5, mostTime - 1, mostTime} {
		for _, used := range []int{1, (now + 1) / 2, max(1, now-1), now} {
			wantCacheGood(t, cacheAt(now, noneOf("ex.com", 1, now+1, used)))
			wantCacheGood(t, cacheAt(now, entryOf(now+1, used, answerOf("ex.com", 60, 1)...)))
		}
		for _, used := range []int{0, -1, now + 1, now + 2, -now, math.MaxInt, math.MinInt} {
			wantCacheBad(t, cacheAt(now, noneOf("ex.com", 1, now+1, used)))
			wantCacheBad(t, cacheAt(now, entryOf(now+1, used, answerOf("ex.com", 60, 1)...)))
			wantCacheBad(t, cacheAt(now, noneOf("a.com", 1, now+1, 1), noneOf("b.com", 1, now+1, 1), noneOf("c.com", 1, now+1, used)))
		}
	}
}

// badAnswers are lists of records of which no entry of a.ex.com and TypeA is.
func badAnswers() [][]impl.Record {
	a := func(last int) impl.Record { return withTtl(addressOf("a.ex.com", last), 7) }
	return [][]impl.Record{
		answerOf("a.ex.com", 7, upTo(13)...), answerOf("a.ex.com", 7, upTo(40)...), make([]impl.Record, 1), make([]impl.Record, 12), make([]impl.Record, 13),
		// Another Name or Type, alone, ahead and behind.
		{withTtl(addressOf("b.ex.com", 2), 7), a(3)}, {a(1), withTtl(addressOf("b.ex.com", 2), 7)}, {a(1), withTtl(addressOf("b.ex.com", 2), 7), a(3)},
		{a(1), {Name: "a.ex.com", Type: 16, Ttl: 7, Data: "x"}}, {{Name: "a.ex.com", Type: 16, Ttl: 7, Data: ""}, a(1)},
		// Not rising, two alike.
		{a(2), a(1)}, {a(1), a(3), a(2)}, {a(10), a(9)}, {a(1), a(1)}, {a(1), a(2), a(2)}, {a(1), a(2), a(1)}, {a(200), a(30)},
		// Unlike Ttls, also such as rise by them.
		{a(1), withTtl(a(2), 8)}, {withTtl(a(1), 6), a(2)}, {a(1), withTtl(a(1), 8)}, {a(1), a(2), withTtl(a(3), 0)},
		// Not good.
		{{}}, {a(1), {}}, {withTtl(a(1), -1)}, {withTtl(a(1), 100001)}, {withTtl(a(1), math.MaxInt)}, {withTtl(a(1), math.MinInt)}, {withTtl(a(1), -1), withTtl(a(2), -1)},
		{addressOf("a.ex.com", 256)}, {a(1), addressOf("a.ex.com", -1)}, {hostOf("a.ex.com", 1, "")}, {hostOf("a.ex.com", 1, "01.2.3.4")}, {hostOf("a.ex.com", 1, "x")}, {hostOf("a..ex.com", 1, "1.2.3.4")},
		{{Name: "a.ex.com", Type: 3, Ttl: 7, Data: "1.2.3.4"}}, {{Name: "a.ex.com", Type: 1, Ttl: 7, Data: strings.Repeat("1.", 1<<12)}},
	}
}

func TestWhatAnEntryTells(t *testing.T) {
	of := func(none bool, l []impl.Record) impl.Cache {
		return cacheAt(5, impl.Entry{Name: "a.ex.com", Type: 1, None: none, Records: l, Until: 10, Used: 3})
	}
	wantCacheGood(t, of(true, nil))
	wantCacheGood(t, of(true, []impl.Record{}))
	wantCacheBad(t, of(false, nil))
	wantCacheBad(t, of(false, []impl.Record{}))
	for _, many := range []int{1, 2, 11, 12} {
		wantCacheGood(t, of(false, answerOf("a.ex.com", 7, upTo(many)...)))
		wantCacheBad(t, of(true, answerOf("a.ex.com", 7, upTo(many)...)))
	}
	for _, l := range badAnswers() {
		wantCacheBad(t, of(false, l))
		wantCacheBad(t, of(true, l))
	}
	// Good by themselves, but of another entry.
	for _, l := range [][]impl.Record{answerOf("b.ex.com", 7, 1), answerOf("ex.com", 7, 1, 2), answerOf("x.a.ex.com", 7, 1), answerOf("", 7, 1), {noteOf("a.ex.com", "x")}, {hostOf("a.ex.com", 5, "x")}} {
		wantCacheBad(t, of(false, l))
		wantCacheGood(t, cacheAt(5, entryOf(10, 3, l...)))
	}
	// A Ttl of 0 is one that records have.
	wantCacheGood(t, of(false, answerOf("a.ex.com", 0, 1, 2)))
}

// The order of records is that of their bytes, not that of their texts.
func TestAnswersRiseByBytes(t *testing.T) {
	for _, pair := range [][2]impl.Record{
		{addressOf("ex", 9), addressOf("ex", 10)}, {addressOf("ex", 30), addressOf("ex", 200)}, {hostOf("ex", 2, "b"), hostOf("ex", 2, "aa")}, {hostOf("ex", 5, "z"), hostOf("ex", 5, "aa.a")},
		{hostOf("ex", 6, "9"), hostOf("ex", 6, "10")}, {hostOf("ex", 15, "9 b"), hostOf("ex", 15, "10 a")}, {noteOf("ex", ""), noteOf("ex", " ")}, {noteOf("ex", "z"), noteOf("ex", "aa")},
	} {
		e := entryOf(5+60, 5, pair[0], pair[1])
		wantCached(t, cacheAt(5), e.Records, e)
		wantCacheGood(t, cacheAt(5, e))
		back := entryOf(5+60, 5, pair[1], pair[0])
		wantNotCached(t, cacheAt(5), back.Records)
		wantCacheBad(t, cacheAt(5, back))
	}
}

func TestPuttingAnswers(t *testing.T) {
	for _, now := range []int{1, 5, mostTime - 1, mostTime} {
		empty := cacheAt(now)
		for _, ttl := range []int{1, 2, 60, mostTtl - 1, mostTtl} {
			for _, many := range []int{1, 2, 11, 12} {
				l := answerOf("a.ex.com", ttl, upTo(many)...)
				wantCached(t, empty, l, entryOf(now+ttl, now, l...))
			}
		}
		wantNotCached(t, empty, nil)
		wantNotCached(t, empty, []impl.Record{})
		// That may be told, but not be kept.
		wantNotCached(t, empty, answerOf("a.ex.com", 0, 1))
		wantNotCached(t, empty, answerOf("a.ex.com", 0, upTo(12)...))
		for _, l := range badAnswers() {
			wantNotCached(t, empty, l)
		}
	}
	for _, name := range goodNames() {
		l := answerOf(name, 7, 1, 2)
		wantCached(t, cacheAt(5), l, entryOf(12, 5, l...))
	}
	for _, name := range badNames() {
		wantNotCached(t, cacheAt(5), answerOf(name, 7, 1, 2))
	}
	for kind, pairs := range goodData() {
		for _, pair := range pairs {
			wantCached(t, cacheAt(5), []impl.Record{recordOf(kind, pair[0])}, entryOf(65, 5, recordOf(kind, pair[0])))
		}
		for _, data := range badData()[kind] {
			wantNotCached(t, cacheAt(5), []impl.Record{recordOf(kind, data)})
		}
	}
}

func TestAnAnswerStandsInItsPlace(t *testing.T) {
	before := []impl.Entry{noneOf("", 1, 10, 2), noneOf("com", 16, 11, 3), entryOf(12, 4, answerOf("ex.com", 60, 1)...), noneOf("ex.com", 16, 13, 5), entryOf(14, 1, answerOf("*.ex.com", 3, 1, 2)...), noneOf("net", 2, 15, 2)}
	c := cacheAt(5, before...)
	for _, l := range [][]impl.Record{answerOf("a", 7, 1), answerOf("com", 7, 1), answerOf("aex.com", 7, 1, 2), answerOf("a.ex.com", 7, 1), answerOf("0.ex.com", 7, 1), answerOf("b.a.ex.com", 7, 1), answerOf("*.com", 7, 1), answerOf("org", 7, 1), {hostOf("ex.com", 2, "x")}, {hostOf("ex.com", 15, "1 x")}, {hostOf("net", 1, "1.2.3.4")}, {hostOf("net", 5, "x")}} {
		wantCached(t, c, l, append(slices.Clone(before), entryOf(5+l[0].Ttl, 5, l...))...)
		// None of that name and type stands in the same place.
		wantNoneCached(t, c, l[0].Name, l[0].Type, 9, append(slices.Clone(before), noneOf(l[0].Name, l[0].Type, 14, 5))...)
	}
}

func TestPuttingInPlaceOfAnEntry(t *testing.T) {
	ahead, behind := noneOf("a.com", 1, 50, 2), entryOf(60, 3, answerOf("c.com", 9, 1)...)
	also := noneOf("b.com", 16, 70, 4)
	for _, old := range []impl.Entry{
		noneOf("b.com", 1, 6, 1), noneOf("b.com", 1, 5+mostTtl, 5), entryOf(6, 1, answerOf("b.com", 60, 1)...), entryOf(5+mostTtl, 5, answerOf("b.com", 60, 2)...),
		entryOf(80, 2, answerOf("b.com", 1, upTo(12)...)...), entryOf(12, 5, answerOf("b.com", 7, 3)...),
	} {
		c := cacheAt(5, ahead, old, also, behind)
		for _, l := range [][]impl.Record{answerOf("b.com", 7, 3), answerOf("b.com", 1, 1, 2), answerOf("b.com", mostTtl, upTo(12)...)} {
			// What was put first is not looked at: neither its records nor how long it might have been told.
			after := wantCached(t, c, l, ahead, entryOf(5+l[0].Ttl, 5, l...), also, behind)
			wantCached(t, after, l, after.Entries...)
		}
		for _, ttl := range []int{1, 7, mostTtl} {
			after := wantNoneCached(t, c, "b.com", 1, ttl, ahead, noneOf("b.com", 1, 5+ttl, 5), also, behind)
			wantNoneCached(t, after, "b.com", 1, ttl, after.Entries...)
		}
	}
}

func TestPuttingNone(t *testing.T) {
	for _, now := range []int{1, 5, mostTime - 1, mostTime} {
		empty := cacheAt(now)
		for _, ttl := range []int{1, 2, 60, mostTtl - 1, mostTtl} {
			for _, kind := range sixTypes {
				wantNoneCached(t, empty, "ex.com", kind, ttl, noneOf("ex.com", kind, now+ttl, now))
			}
			for _, name := range goodNames() {
				wantNoneCached(t, empty, name, 1, ttl, noneOf(name, 1, now+ttl, now))
			}
		}
		for _, ttl := range []int{0, -1, -mostTtl, mostTtl + 1, mostTtl + 2, mostTime, allSerials + 1, math.MaxInt, math.MaxInt - mostTime, math.MinInt, math.MinInt + 1} {
			wantNoneNotCached(t, empty, "ex.com", 1, ttl)
		}
		for _, kind := range []int{0, 3, 4, 7, 14, 17, -1, 257, allSerials + 1, math.MaxInt, math.MinInt} {
			wantNoneNotCached(t, empty, "ex.com", kind, 60)
		}
		for _, name := range badNames() {
			wantNoneNotCached(t, empty, name, 1, 60)
		}
	}
}

// wantInsteadOf puts a new answer, and a new None, into a full cache, and asks that just the one with this number went.
func wantInsteadOf(t *testing.T, c impl.Cache, gone int, names ...string) {
	t.Helper()
	left := slices.Delete(slices.Clone(c.Entries), gone, gone+1)
	for _, name := range names {
		l := answerOf(name, 7, 1, 2)
		wantCached(t, c, l, append(slices.Clone(left), entryOf(c.Now+7, c.Now, l...))...)
		wantNoneCached(t, c, name, 1, 9, append(slices.Clone(left), noneOf(name, 1, c.Now+9, c.Now))...)
	}
}

// butAt is how entries are Used of which some are Used otherwise.
func butAt(others, used int, at ...int) func(int) int {
	return func(i int) int {
		if slices.Contains(at, i) {
			return used
		}
		return others
	}
}

func TestWhoIsLeastUsedGoes(t *testing.T) {
	// Ahead of all, behind all, in the middle, right ahead of and right behind one of them.
	names := []string{"", "a.ex.com", "zz.ex.com", "n09x.ex.com", "a.n09.ex.com", "n00a.ex.com", "n19x.ex.com", "n18x.ex.com"}
	const now = 50
	for gone := range 20 {
		// One alone, by one or by far.
		wantInsteadOf(t, fullCache(now, 20, butAt(now, now-1, gone)), gone, names...)
		wantInsteadOf(t, fullCache(now, 20, butAt(2, 1, gone)), gone, names...)
		wantInsteadOf(t, fullCache(now, 20, butAt(now, 1, gone)), gone, names...)
		wantInsteadOf(t, fullCache(now, 20, func(i int) int { return 1 + (i-gone+20)%20 }), gone, names...)
		wantInsteadOf(t, fullCache(now, 20, func(i int) int { return 20 + (gone-i+20)%20 }), gone, names...)
		// Several: the first of them.
		for other := range gone {
			wantInsteadOf(t, fullCache(now, 20, butAt(now, now-1, other, gone)), other, names[gone%8])
			wantInsteadOf(t, fullCache(now, 20, butAt(7, 3, gone, other, 19)), other, names[gone%8])
		}
	}
	wantInsteadOf(t, fullCache(now, 20, alwaysAt(1)), 0, names...)
	wantInsteadOf(t, fullCache(now, 20, alwaysAt(now-1)), 0, names...)
	// All as much as the new one, which stays though it be the first or the last.
	wantInsteadOf(t, fullCache(now, 20, alwaysAt(now)), 0, names...)
	wantInsteadOf(t, fullCache(1, 20, alwaysAt(1)), 0, names...)
	wantInsteadOf(t, fullCache(mostTime, 20, alwaysAt(mostTime)), 0, names...)
}

// Who is least used goes, not who was put first nor who is over first.
func TestWhatIsNotAskedOfWhoGoes(t *testing.T) {
	c := fullCache(50, 20, alwaysAt(40))
	for i := range c.Entries {
		c.Entries[i].Until = 51 + i
	}
	c.Entries[19].Used, c.Entries[12].Records = 39, answerOf(nthName(12), 3, upTo(12)...)
	c.Entries[12].None = false
	wantInsteadOf(t, c, 19, "", "zz.ex.com", "n12x.ex.com")
	// Another type of one name goes by itself.
	same := cacheAt(50, append(slices.Clone(c.Entries[:19]), noneOf(nthName(3), 16, 60, 20))...)
	wantInsteadOf(t, same, 4, "", nthName(19))
}

func TestNobodyGoesWhereThereIsRoom(t *testing.T) {
	for _, many := range []int{0, 1, 18, 19} {
		c := fullCache(50, many, func(i int) int { return 1 + i })
		for _, name := range []string{"", "zz.ex.com", "n09x.ex.com"} {
			l := answerOf(name, 7, 1, 2)
			wantCached(t, c, l, append(slices.Clone(c.Entries), entryOf(57, 50, l...))...)
			wantNoneCached(t, c, name, 1, 9, append(slices.Clone(c.Entries), noneOf(name, 1, 59, 50))...)
		}
	}
	// Nor where the new one stands in place of one, be that the least used one or not.
	c := fullCache(50, 20, func(i int) int { return 1 + i })
	for i := range 20 {
		left := slices.Delete(slices.Clone(c.Entries), i, i+1)
		l := answerOf(nthName(i), 7, 1, 2)
		wantCached(t, c, l, append(slices.Clone(left), entryOf(57, 50, l...))...)
		wantNoneCached(t, c, nthName(i), 1, 9, append(slices.Clone(left), noneOf(nthName(i), 1, 59, 50))...)
	}
}

// What is refused throws nothing away, and neither does asking.
func TestAFullCacheThatIsAsked(t *testing.T) {
	c := fullCache(50, 20, func(i int) int { return 1 + i })
	wantNotCached(t, c, answerOf("zz.ex.com", 0, 1))
	wantNoneNotCached(t, c, "zz.ex.com", 1, 0)
	wantNotToldBy(t, c, "zz.ex.com", 1)
	// Each one that is asked for is the last to go.
	for i := range 20 {
		c = wantToldBy(t, c, noneOf(nthName(i), 1, 150, 50))
		wantInsteadOf(t, c, (i+1)%20, "", "zz.ex.com")
		wantOldestIs(t, c, []int{50, i + 2}[min(1, 19-i)])
	}
}

func TestAskingForWhatIsThere(t *testing.T) {
	a, none := answerOf("a.ex.com", 60, 1, 2, 3), noneOf("b.ex.com", 16, 70, 4)
	also := entryOf(12, 3, noteOf("a.ex.com", "x"))
	for _, until := range []int{6, 7, 12, 60, 65, 100, 5 + mostTtl} {
		for _, used := range []int{1, 4, 5} {
			c := cacheAt(5, entryOf(until, used, a...), none, also)
			told := entryOf(until, 5, answerOf("a.ex.com", until-5, 1, 2, 3)...)
			after := wantToldBy(t, c, told)
			// Twice it is told the same.
			if again := wantToldBy(t, after, told); !alikeCaches(again, after) {
				t.Error(shown(again))
			}
			after = wantToldBy(t, after, noneOf("b.ex.com", 16, 70, 5))
			wantToldBy(t, after, entryOf(12, 5, withTtl(noteOf("a.ex.com", "x"), 7)))
		}
	}
	for _, kind := range sixTypes {
		data := goodData()[kind][0][0]
		c := cacheAt(5, entryOf(12, 2, recordOf(kind, data)), noneOf("", kind, 13, 3))
		wantToldBy(t, c, entryOf(12, 5, withTtl(recordOf(kind, data), 7)))
		wantToldBy(t, c, noneOf("", kind, 13, 5))
	}
	// The greatest times and lists.
	full := answerOf("a.ex.com", 0, upTo(12)...)
	wantToldBy(t, cacheAt(mostTime, entryOf(mostTime+mostTtl, 1, full...)), entryOf(mostTime+mostTtl, mostTime, answerOf("a.ex.com", mostTtl, upTo(12)...)...))
	wantToldBy(t, cacheAt(1, entryOf(2, 1, full...)), entryOf(2, 1, answerOf("a.ex.com", 1, upTo(12)...)...))
}

func TestAskingForWhatIsNotThere(t *testing.T) {
	c := cacheAt(5, entryOf(12, 3, answerOf("a.ex.com", 60, 1)...), noneOf("*.ex.com", 1, 12, 3), noneOf("", 2, 12, 3), noneOf("ex.com", 5, 12, 3))
	wantNotToldBy(t, c, "a.ex.com", 2, 5, 6, 15, 16, 0, -1, 257, allSerials+1, math.MaxInt, math.MinInt)
	wantNotToldBy(t, c, "", 1, 5, 0, 16)
	// Neither a star nor a TypeCname nor a name above stands for another one here.
	for _, name := range []string{"b.ex.com", "x.a.ex.com", "com", "x", "*", "a.ex.co", "a.ex", "ex.net"} {
		wantNotToldBy(t, c, name, sixTypes...)
	}
	wantNotToldBy(t, c, "ex.com", 1, 2, 6)
	for _, name := range append(badNames(), "A.ex.com", "a.ex.com.", ".a.ex.com", "a.ex.com ") {
		wantNotToldBy(t, c, name, 0, 1, 2, 5)
	}
}

func TestTimePasses(t *testing.T) {
	for _, now := range []int{1, 5, 1000, mostTime - mostStep - 1, mostTime - mostStep} {
		for _, by := range []int{1, 2, 60, mostStep - 1, mostStep} {
			wantTimePassed(t, cacheAt(now), by, now+by, 0)
			// Until is one below Now then, Now, one above, and as far as can be.
			below, at, above, far := noneOf("a.com", 1, max(now+1, now+by-1), 1), noneOf("b.com", 1, now+by, now), noneOf("c.com", 1, min(now+by+1, now+mostTtl), 1), entryOf(now+mostTtl, now, answerOf("d.com", 60, 1, 2)...)
			var left []impl.Entry
			if by < mostTtl {
				left = []impl.Entry{above, far}
			}
			wantTimePassed(t, cacheAt(now, below, at, above, far), by, now+by, 4-len(left), left...)
			wantTimePassed(t, cacheAt(now, at), by, now+by, 1)
			wantTimePassed(t, cacheAt(now, below), by, now+by, 1)
		}
		for _, by := range []int{0, -1, -now, -mostStep, mostStep + 1, mostTime, allSerials + 1, math.MaxInt, math.MaxInt - now, math.MinInt, math.MinInt + 1} {
			wantNoTimePassed(t, cacheAt(now), by)
			wantNoTimePassed(t, cacheAt(now, noneOf("a.com", 1, now+1, 1)), by)
		}
	}
	// Those that go may stand anywhere.
	for bits := range 1 << 6 {
		var all, left []impl.Entry
		for i, kind := range sixTypes {
			e := noneOf("ex.com", kind, 10+bits>>i&1, 1+i%5)
			all = append(all, e)
			if e.Until > 10 {
				left = append(left, e)
			}
		}
		wantTimePassed(t, cacheAt(7, all...), 3, 10, 6-len(left), left...)
	}
}

// aboutTheEnd has what is over right ahead of the greatest Now, at it, right behind it, and as late as can be, as far as a cache of this time may have it.
func aboutTheEnd(now int) impl.Cache {
	all := []impl.Entry{noneOf("a.com", 1, mostTime-1, 1), noneOf("b.com", 1, mostTime, now), entryOf(mostTime+1, 1, answerOf("c.com", 60, 1, 2)...), noneOf("d.com", 1, now+mostTtl, now)}
	return cacheAt(now, entriesBut(all, func(e impl.Entry) bool { return !wantGoodEntry(now, e) })...)
}

// Time ends at the greatest Now: it is come to exactly, by one step or by several.
func TestTheEndOfTime(t *testing.T) {
	for _, by := range []int{1, 2, 3, 10, 60, mostStep - 1, mostStep} {
		c := aboutTheEnd(mostTime - by)
		left := entriesBut(c.Entries, func(e impl.Entry) bool { return e.Until <= mostTime })
		wantTimePassed(t, cacheAt(c.Now), by, mostTime, 0)
		wantTimePassed(t, c, by, mostTime, len(c.Entries)-len(left), left...)
		if by < 2 {
			continue
		}
		ahead := entriesBut(c.Entries, func(e impl.Entry) bool { return e.Until < mostTime })
		c = wantTimePassed(t, c, by-1, mostTime-1, len(c.Entries)-len(ahead), ahead...)
		wantTimePassed(t, c, 1, mostTime, len(ahead)-len(left), left...)
	}
	full := fullCache(mostTime-99, 20, alwaysAt(1))
	wantTimePassed(t, full, 99, mostTime, 0, full.Entries...)
	wantTimePassed(t, fullCache(mostTime-100, 20, alwaysAt(1)), 100, mostTime, 20)
}

// Beyond it no step is done, not even in part, whatever a cache has and however far the step goes.
func TestNoTimePassesBeyondTheEnd(t *testing.T) {
	for _, left := range []int{0, 1, 2, 3, 10, 60, mostStep - 2, mostStep - 1} {
		now := mostTime - left
		caches := []impl.Cache{cacheAt(now), aboutTheEnd(now), fullCache(now, 20, alwaysAt(now)), cacheAt(now, noneOf("a.com", 1, now+1, 1)), cacheAt(now, noneOf("a.com", 1, now+mostTtl, 1))}
		for _, by := range []int{left + 1, left + 2, left + 60, (left + 1 + mostStep) / 2, mostStep - 1, mostStep, mostStep + 1, mostTime, math.MaxInt - now, math.MaxInt} {
			if by <= left {
				continue
			}
			for _, c := range caches {
				wantNoTimePassed(t, c, by)
			}
		}
		for _, by := range []int{0, -1, -left, -now, math.MinInt} {
			wantNoTimePassed(t, caches[1], by)
		}
	}
}

// What is put so late that its end lies beyond the greatest Now is told up to there with what is left of its time; from there on time does not pass at all, so that it is told at no moment at which it would be over.
func TestWhatIsPutNearTheEndOfTime(t *testing.T) {
	for _, left := range []int{0, 1, 2, 5, 60} {
		for _, ttl := range []int{left + 1, left + 2, left + 60, mostTtl} {
			now, until := mostTime-left, mostTime-left+ttl
			l := answerOf("b.ex.com", ttl, 1, 2)
			c := wantNoneCached(t, cacheAt(now), "a.ex.com", 1, ttl, noneOf("a.ex.com", 1, until, now))
			c = wantCached(t, c, l, c.Entries[0], entryOf(until, now, l...))
			wantNoTimePassed(t, c, ttl+mostStep)
			for gone := range left + 1 {
				wantToldBy(t, c, noneOf("a.ex.com", 1, until, c.Now))
				wantToldBy(t, c, entryOf(until, c.Now, answerOf("b.ex.com", ttl-gone, 1, 2)...))
				wantNoTimePassed(t, c, mostTime-c.Now+1)
				wantNoTimePassed(t, c, until-c.Now)
				if c.Now < mostTime {
					c = wantTimePassed(t, c, 1, now+gone+1, 0, c.Entries...)
				}
			}
			if c.Now != mostTime {
				t.Error(left, ttl, c.Now)
			}
		}
	}
}

func TestDroppingBelowANameOfCaches(t *testing.T) {
	of := func(name string, kind int) impl.Entry { return noneOf(name, kind, 10, 3) }
	answer := entryOf(12, 2, answerOf("a.ex.com", 60, 1, 2)...)
	all := []impl.Entry{
		of("", 1), of("com", 2), of("aex.com", 1), of("ex.com", 1), of("ex.com", 16), of("*.ex.com", 1), answer, of("a.ex.com", 5), of("b.a.ex.com", 1), of("c.b.a.ex.com", 1), of("b.ex.com", 1), of("com.net", 1), of("ex.net", 1),
	}
	c := cacheAt(5, all...)
	below := func(names ...string) []impl.Entry {
		return entriesBut(all, func(e impl.Entry) bool { return slices.Contains(names, e.Name) })
	}
	wantDropped(t, c, "", 13)
	wantDropped(t, c, "com", 10, below("com", "aex.com", "ex.com", "*.ex.com", "a.ex.com", "b.a.ex.com", "c.b.a.ex.com", "b.ex.com")...)
	wantDropped(t, c, "ex.com", 8, below("ex.com", "*.ex.com", "a.ex.com", "b.a.ex.com", "c.b.a.ex.com", "b.ex.com")...)
	wantDropped(t, c, "a.ex.com", 4, below("a.ex.com", "b.a.ex.com", "c.b.a.ex.com")...)
	wantDropped(t, c, "b.a.ex.com", 2, below("b.a.ex.com", "c.b.a.ex.com")...)
	wantDropped(t, c, "c.b.a.ex.com", 1, below("c.b.a.ex.com")...)
	wantDropped(t, c, "net", 2, below("com.net", "ex.net")...)
	// A star is a name like others here.
	wantDropped(t, c, "*.ex.com", 1, below("*.ex.com")...)
	for _, name := range []string{"*", "*.com", "x.com", "m", "om", "x.c.b.a.ex.com", "org", "x.a.ex.com", "e.com", "et", "a", "a.ex"} {
		wantDropped(t, c, name, 0, all...)
		wantDropped(t, cacheAt(mostTime), name, 0)
	}
	for _, name := range append(badNames(), "Com", ".com", "com.", " com") {
		wantNothingDropped(t, c, name)
		wantNothingDropped(t, cacheAt(1), name)
	}
	wantDropped(t, fullCache(5, 20, alwaysAt(5)), "ex.com", 20)
	wantDropped(t, cacheAt(1), "", 0)
}

func TestOldestOfCaches(t *testing.T) {
	for _, now := range []int{1, 5, mostTime} {
		if got, ok := impl.OldestIn(cacheAt(now)); got != 0 || ok {
			t.Error(now, got, ok)
		}
		for _, used := range []int{1, (now + 1) / 2, now} {
			wantOldestIs(t, cacheAt(now, noneOf("ex.com", 1, now+1, used)), used)
			wantOldestIs(t, cacheAt(now, entryOf(now+1, used, answerOf("ex.com", 60, 1)...)), used)
			wantOldestIs(t, fullCache(now, 20, alwaysAt(used)), used)
			wantOldestIs(t, fullCache(now, 2, alwaysAt(used)), used)
		}
	}
	for at := range 20 {
		wantOldestIs(t, fullCache(50, 20, butAt(50, 49, at)), 49)
		wantOldestIs(t, fullCache(50, 20, butAt(2, 1, at, 19-at)), 1)
		wantOldestIs(t, fullCache(50, 20, func(i int) int { return 7 + (i+at)%20 }), 7)
	}
}

// wantToldUntil asks for the one thing in a cache at some moments, all of those about its end among them, to which time comes in steps of this size.
func wantToldUntil(t *testing.T, c impl.Cache, told impl.Entry, step int) {
	t.Helper()
	first, last := c.Now, told.Until-1
	for c.Now < told.Until {
		want := told
		want.Used, want.Records = c.Now, nil
		for _, r := range told.Records {
			want.Records = append(want.Records, withTtl(r, told.Until-c.Now))
		}
		if c.Now == first || c.Now > last-3 || c.Now%7 == 0 {
			wantToldBy(t, c, want)
		}
		next, gone, ok := impl.PassTime(c, min(step, max(1, last-c.Now)))
		if !ok || (gone == 1) != (next.Now == told.Until) {
			t.Fatalf("PassTime(%s) = %s, %d, %v", shown(c), shown(next), gone, ok)
		}
		c = next
	}
	wantNotToldBy(t, c, told.Name, told.Type)
}

// What is put is told up to the last moment ahead of its end, and not at this, however time comes there.
func TestWhatIsPutIsToldForItsTime(t *testing.T) {
	for _, now := range []int{1, 2, 99999, mostTime - 2*mostTtl} {
		for _, ttl := range []int{1, 2, 3, 10, 100, 1000, mostTtl - 1, mostTtl} {
			for _, step := range []int{1, 3, 7, 99, mostStep} {
				if ttl/step > 1000 {
					continue
				}
				l := answerOf("a.ex.com", ttl, 1, 2)
				put, ok := impl.PutAnswer(cacheAt(now), l)
				none, also := impl.PutNone(cacheAt(now), "a.ex.com", 1, ttl)
				if !ok || !also {
					t.Fatal(now, ttl, ok, also)
				}
				wantToldUntil(t, put, entryOf(now+ttl, now, l...), step)
				wantToldUntil(t, none, noneOf("a.ex.com", 1, now+ttl, now), step)
			}
		}
	}
}

// lastPut is what was put last of a name and a type, and when; no entry and no cache is kept of it.
type lastPut struct {
	at   int
	ttl  int
	none bool
	data []impl.Record
}

// history knows just what was put, what was dropped and what time it is.
type history struct {
	now  int
	puts map[setKey]lastPut
}

// step does one thing to a history and to a cache alike.
func (h *history) step(t *testing.T, r *rand.Rand, c impl.Cache, key setKey) impl.Cache {
	t.Helper()
	ok := true
	switch ttl := []int{1, 2, 1 + r.Intn(30), 1 + r.Intn(mostTtl), mostTtl}[r.Intn(5)]; r.Intn(12) {
	case 0, 1, 2:
		l := manyOf(key, ttl, 1+r.Intn(12))
		c, ok = impl.PutAnswer(c, l)
		h.puts[key] = lastPut{at: h.now, ttl: ttl, data: l}
	case 3, 4:
		c, ok = impl.PutNone(c, key.name, key.kind, ttl)
		h.puts[key] = lastPut{at: h.now, ttl: ttl, none: true}
	case 5:
		c, _, ok = impl.DropBelow(c, key.name)
		for other := range h.puts {
			if wantBelowName(other.name, key.name) {
				delete(h.puts, other)
			}
		}
	case 6, 7:
		if next, _, there := impl.AskCache(c, key.name, key.kind); there {
			c = next
		}
	default:
		by := []int{1, 1, 1, 1 + r.Intn(10), 1 + r.Intn(mostStep)}[r.Intn(5)]
		c, _, ok = impl.PassTime(c, by)
		h.now += by
	}
	if !ok || c.Now != h.now {
		t.Fatalf("a step was refused, or it is %d, not %d", c.Now, h.now)
	}
	return c
}

// manyOf are so many records of a name and one of the types that are drawn from.
func manyOf(key setKey, ttl, many int) []impl.Record {
	var l []impl.Record
	for i := range many {
		data := fmt.Sprintf("1.2.3.%d", i)
		if key.kind == 16 {
			data = strings.Repeat("x", i)
		}
		l = append(l, impl.Record{Name: key.name, Type: key.kind, Ttl: ttl, Data: data})
	}
	return l
}

// As many names and types as a cache has room for, so that nothing is thrown away: what was put last is told for its time, and nothing else is.
func TestWhatIsToldIsWhatWasPutLast(t *testing.T) {
	r := rand.New(rand.NewSource(101))
	names := []string{"", "com", "ex.com", "a.ex.com", "*.ex.com", "b.a.ex.com", "aex.com", "net", "ex.net", "a.ex.net"}
	var keys []setKey
	for _, name := range names {
		keys = append(keys, setKey{name, 1}, setKey{name, 16})
	}
	// By how long it is still told: 0 is the moment at which it is over, 1 the last one ahead.
	moments := map[int]int{}
	for range 60 {
		c := impl.NewCache()
		h := &history{now: 1, puts: map[setKey]lastPut{}}
		for range 80 {
			c = h.step(t, r, c, keys[r.Intn(len(keys))])
			for _, key := range keys {
				p, known := h.puts[key]
				left := p.at + p.ttl - h.now
				if !known || left <= 0 {
					wantNotToldBy(t, c, key.name, key.kind)
					moments[min(0, left)]++
					continue
				}
				moments[min(2, left)]++
				e := impl.Entry{Name: key.name, Type: key.kind, None: p.none, Until: p.at + p.ttl, Used: h.now}
				for _, one := range p.data {
					e.Records = append(e.Records, withTtl(one, left))
				}
				wantToldBy(t, c, e)
			}
		}
	}
	if min(moments[0], moments[1], moments[2]) < 300 {
		t.Error("the moments are all of one kind", moments)
	}
}

// Those that went were used ahead of all that stayed, by being put or asked for.
func TestWhoStaysWasUsedLast(t *testing.T) {
	r := rand.New(rand.NewSource(102))
	thrown := 0
	for range 40 {
		c := impl.NewCache()
		used := map[string]int{}
		for range 150 {
			name := nthName(r.Intn(30))
			next, _, ok := impl.AskCache(c, name, 1)
			if !ok && r.Intn(2) == 0 {
				next, ok = impl.PutNone(c, name, 1, mostTtl)
			}
			if ok {
				c = next
				used[name] = c.Now
			}
			for old, at := range used {
				if slices.ContainsFunc(c.Entries, func(e impl.Entry) bool { return e.Name == old }) {
					continue
				}
				thrown++
				delete(used, old)
				for _, e := range c.Entries {
					if e.Used < at || e.Used == at && wantOrder(e.Name, old) < 0 && e.Name != name {
						t.Fatalf("%s, used at %d, went ahead of %s", old, at, shown(e))
					}
				}
			}
			for _, e := range c.Entries {
				if e.Used != used[e.Name] {
					t.Fatalf("%s was used at %d", shown(e), used[e.Name])
				}
			}
			if len(c.Entries) != len(used) || len(used) > 20 {
				t.Fatalf("%d are told, %d were used", len(c.Entries), len(used))
			}
			if r.Intn(3) == 0 {
				c, _, _ = impl.PassTime(c, 1+r.Intn(3))
			}
		}
	}
	if thrown < 300 {
		t.Error("nearly none went", thrown)
	}
}
