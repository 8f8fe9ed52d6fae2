package tests

import (
	"fmt"
	"math/rand"
	"slices"
	"strings"

	"loop.example/g00300/impl"
)

// The model has its own numbers, so that the program's constants are asked for, too.
const (
	mostInCache  = 20
	mostInAnswer = 12
	mostTtl      = 100000
	mostTime     = 1000000000
	mostStep     = 100000
)

// entryKey is a text whose order by bytes is the order of entries.
func entryKey(e impl.Entry) string {
	return orderKey(e.Name) + "\x00" + fmt.Sprintf("%03d", e.Type)
}

func wantOwner(name string, kind int) bool {
	return wantGood(name) && slices.Contains(sixTypes, kind)
}

// wantAnswerOf tells whether these are records that an entry of this name and type may have.
func wantAnswerOf(name string, kind int, l []impl.Record) bool {
	for i, r := range l {
		if !wantGoodRecord(r) || r.Name != name || r.Type != kind || r.Ttl != l[0].Ttl || i > 0 && compareData(kind, l[i-1].Data, r.Data) >= 0 {
			return false
		}
	}
	return len(l) >= 1 && len(l) <= mostInAnswer
}

func wantGoodEntry(now int, e impl.Entry) bool {
	if !wantOwner(e.Name, e.Type) || e.Until <= now || e.Until > now+mostTtl || e.Used < 1 || e.Used > now {
		return false
	}
	return e.None && len(e.Records) == 0 || !e.None && wantAnswerOf(e.Name, e.Type, e.Records)
}

func wantGoodCache(c impl.Cache) bool {
	if c.Now < 1 || c.Now > mostTime || len(c.Entries) > mostInCache {
		return false
	}
	for i, e := range c.Entries {
		if !wantGoodEntry(c.Now, e) || i > 0 && entryKey(c.Entries[i-1]) >= entryKey(e) {
			return false
		}
	}
	return true
}

// entriesBut are a copy of the list without those that are unwanted.
func entriesBut(l []impl.Entry, unwanted func(impl.Entry) bool) []impl.Entry {
	return slices.DeleteFunc(slices.Clone(l), unwanted)
}

// inOrderOfUse has those that are Used least ahead, of these the first in the order of the list.
func inOrderOfUse(l []impl.Entry) []impl.Entry {
	l = slices.Clone(l)
	slices.SortStableFunc(l, func(a, b impl.Entry) int { return a.Used - b.Used })
	return l
}

// cacheAt puts entries into the order of caches, whatever they are.
func cacheAt(now int, l ...impl.Entry) impl.Cache {
	l = slices.Clone(l)
	slices.SortStableFunc(l, func(a, b impl.Entry) int { return strings.Compare(entryKey(a), entryKey(b)) })
	return impl.Cache{Now: now, Entries: l}
}

// wantWith leaves the elder entries that were used last, as many as there is room for, beside the new one.
func wantWith(c impl.Cache, e impl.Entry, ttl int) impl.Cache {
	e.Until, e.Used = c.Now+ttl, c.Now
	others := inOrderOfUse(entriesBut(c.Entries, func(old impl.Entry) bool { return entryKey(old) == entryKey(e) }))
	return cacheAt(c.Now, append(others[max(0, len(others)+1-mostInCache):], e)...)
}

func wantPutAnswer(c impl.Cache, l []impl.Record) (impl.Cache, bool) {
	if !wantGoodCache(c) || len(l) == 0 || !wantAnswerOf(l[0].Name, l[0].Type, l) || l[0].Ttl == 0 {
		return impl.Cache{}, false
	}
	return wantWith(c, impl.Entry{Name: l[0].Name, Type: l[0].Type, Records: l}, l[0].Ttl), true
}

func wantPutNone(c impl.Cache, name string, kind, ttl int) (impl.Cache, bool) {
	if !wantGoodCache(c) || !wantOwner(name, kind) || ttl < 1 || ttl > mostTtl {
		return impl.Cache{}, false
	}
	return wantWith(c, impl.Entry{Name: name, Type: kind, None: true}, ttl), true
}

func wantAsk(c impl.Cache, name string, kind int) (impl.Cache, impl.Entry, bool) {
	at := slices.IndexFunc(c.Entries, func(e impl.Entry) bool { return e.Name == name && e.Type == kind })
	if !wantGoodCache(c) || at < 0 {
		return impl.Cache{}, impl.Entry{}, false
	}
	after := impl.Cache{Now: c.Now, Entries: slices.Clone(c.Entries)}
	after.Entries[at].Used = c.Now
	told := after.Entries[at]
	told.Records = nil
	for _, r := range c.Entries[at].Records {
		told.Records = append(told.Records, withTtl(r, told.Until-c.Now))
	}
	return after, told, true
}

// wantWithout are what is left of a cache, and how many went.
func wantWithout(c impl.Cache, now int, over func(impl.Entry) bool) (impl.Cache, int, bool) {
	left := impl.Cache{Now: now, Entries: entriesBut(c.Entries, over)}
	return left, len(c.Entries) - len(left.Entries), true
}

func wantPass(c impl.Cache, by int) (impl.Cache, int, bool) {
	if !wantGoodCache(c) || by < 1 || by > mostStep || by > mostTime-c.Now {
		return impl.Cache{}, 0, false
	}
	now := c.Now + by
	return wantWithout(c, now, func(e impl.Entry) bool { return e.Until <= now })
}

func wantDrop(c impl.Cache, name string) (impl.Cache, int, bool) {
	if !wantGoodCache(c) || !wantGood(name) {
		return impl.Cache{}, 0, false
	}
	return wantWithout(c, c.Now, func(e impl.Entry) bool { return wantBelowName(e.Name, name) })
}

func wantOldest(c impl.Cache) (int, bool) {
	if !wantGoodCache(c) || len(c.Entries) == 0 {
		return 0, false
	}
	return inOrderOfUse(c.Entries)[0].Used, true
}

func alikeEntry(a, b impl.Entry) bool {
	return a.Name == b.Name && a.Type == b.Type && a.None == b.None && a.Until == b.Until && a.Used == b.Used && slices.Equal(a.Records, b.Records)
}

func alikeEntries(a, b []impl.Entry) bool {
	return slices.EqualFunc(a, b, alikeEntry)
}

func alikeCaches(a, b impl.Cache) bool {
	return a.Now == b.Now && alikeEntries(a.Entries, b.Entries)
}

// randomOwner draws from more names and types than a cache has room for, and from few enough that they come again.
func randomOwner(r *rand.Rand) (string, int) {
	names := []string{"", "com", "ex.com", "a.ex.com", "*.ex.com", "b.a.ex.com", "aex.com", "net"}
	return names[r.Intn(len(names))], sixTypes[r.Intn(len(sixTypes))]
}

// randomAnswer is a list that may be put into a cache.
func randomAnswer(r *rand.Rand) []impl.Record {
	name, kind := randomOwner(r)
	ttl := []int{1, 2, 1 + r.Intn(9), 1 + r.Intn(300), 1 + r.Intn(mostTtl), mostTtl}[r.Intn(6)]
	var l []impl.Record
	for range 1 + r.Intn(2*mostInAnswer) {
		one := impl.Record{Name: name, Type: kind, Ttl: ttl, Data: randomData(r, kind)}
		if wantGoodRecord(one) && len(l) < mostInAnswer && !slices.Contains(l, one) {
			l = append(l, one)
		}
	}
	if len(l) == 0 {
		return randomAnswer(r)
	}
	return inOrder(l...)
}

// randomCache has gone through some of the model's steps from any time on.
func randomCache(r *rand.Rand) impl.Cache {
	c := impl.Cache{Now: []int{1, 1 + r.Intn(100), 1 + r.Intn(mostTime), mostTime - r.Intn(300), mostTime - r.Intn(mostStep), mostTime}[r.Intn(6)]}
	for range r.Intn(140) {
		name, kind := randomOwner(r)
		next, ok := c, true
		switch r.Intn(9) {
		case 0, 1, 2:
			next, ok = wantPutAnswer(c, randomAnswer(r))
		case 3, 4:
			next, ok = wantPutNone(c, name, kind, []int{1, 1 + r.Intn(50), 1 + r.Intn(mostTtl), mostTtl}[r.Intn(4)])
		case 5, 6:
			next, _, ok = wantAsk(c, name, kind)
		case 7:
			next, _, ok = wantPass(c, []int{1, 1 + r.Intn(9), 1 + r.Intn(9), 1 + r.Intn(300), 1 + r.Intn(mostStep)}[r.Intn(5)])
		case 8:
			if r.Intn(9) == 0 {
				next, _, ok = wantDrop(c, name)
			}
		}
		if ok {
			c = next
		}
	}
	return c
}

// damagedEntry changes one thing about an entry; the one handed in stays as it is.
func damagedEntry(r *rand.Rand, now int, e impl.Entry) impl.Entry {
	switch r.Intn(9) {
	case 0:
		e.Name = damaged(r, e.Name)
	case 1:
		e.Type = r.Intn(20) - 1
	case 2:
		e.None = !e.None
	case 3:
		e.Until = now + []int{-1, 0, 1, mostTtl, mostTtl + 1, randomInt(r)}[r.Intn(6)]
	case 4:
		e.Used = []int{-1, 0, 1, now - 1, now, now + 1, randomInt(r)}[r.Intn(7)]
	case 5:
		e.Records = nil
	case 6:
		e.Records = randomAnswer(r)
	default:
		e.Records = damagedAnswer(r, e.Records)
	}
	return e
}

// damagedAnswer changes one thing about a list; the one handed in stays as it is.
func damagedAnswer(r *rand.Rand, l []impl.Record) []impl.Record {
	if len(l) == 0 || r.Intn(3) == 0 {
		return damagedList(r, l)
	}
	l = slices.Clone(l)
	at, other := r.Intn(len(l)), r.Intn(len(l))
	switch r.Intn(4) {
	case 0:
		l[at], l[other] = l[other], l[at]
	case 1:
		l = slices.Insert(l, at, l[other])
	case 2:
		l[at].Name = damaged(r, l[at].Name)
	case 3:
		for i := range l {
			l[i].Ttl = []int{-1, 0, 1, mostTtl, mostTtl + 1}[at%5]
		}
	}
	return l
}

// damagedCache changes one thing about a cache; the one handed in stays as it is.
func damagedCache(r *rand.Rand, c impl.Cache) impl.Cache {
	c.Entries = slices.Clone(c.Entries)
	if len(c.Entries) == 0 {
		c.Entries = []impl.Entry{{Name: "ex.com", Type: 1, None: true, Until: c.Now + 1, Used: 1}}
	}
	at, other := r.Intn(len(c.Entries)), r.Intn(len(c.Entries))
	switch r.Intn(8) {
	case 0:
		c.Now = []int{0, 1, c.Now - 1, c.Now + 1, mostTime, mostTime + 1, randomInt(r)}[r.Intn(7)]
	case 1:
		c.Entries[at], c.Entries[other] = c.Entries[other], c.Entries[at]
	case 2:
		c.Entries = slices.Insert(c.Entries, at, c.Entries[other])
	case 3:
		c.Entries = slices.Delete(c.Entries, at, at+1)
	default:
		c.Entries[at] = damagedEntry(r, c.Now, c.Entries[at])
	}
	return c
}
