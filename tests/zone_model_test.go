package tests

import (
	"fmt"
	"math/rand"
	"regexp"
	"slices"
	"strconv"
	"strings"

	"loop.example/g00300/impl"
)

// The model has its own numbers, so that the program's constants are asked for, too.
const (
	mostInZone  = 40
	mostInBatch = 12
)

var zoneHeadForm = regexp.MustCompile(`\A([^ ]+) ` + numberForm + `\z`)

func wantApex(s string) bool {
	return wantGood(s) && !strings.Contains(s, "*")
}

func wantBelowName(a, b string) bool {
	return strings.HasPrefix(orderKey(a), orderKey(b))
}

func wantAsSaid(apex string, l []impl.Record) bool {
	if !wantApex(apex) || len(l) > mostInZone {
		return false
	}
	for i, r := range l {
		if !wantGoodRecord(r) || i > 0 && recordKey(l[i-1]) >= recordKey(r) {
			return false
		}
	}
	return true
}

// wantPairRules are the rules that two records, or one held against itself, can break together.
func wantPairRules(apex string, a, b impl.Record, alike bool) []int {
	var broken []int
	if !wantBelowName(a.Name, apex) {
		broken = append(broken, 1)
	}
	if a.Type == 6 && (a.Name != apex || b.Type == 6 && !alike) {
		broken = append(broken, 2)
	}
	if !alike && a.Name == b.Name && a.Type == b.Type && (a.Ttl != b.Ttl || a.Data == b.Data) {
		broken = append(broken, 3)
	}
	if !alike && a.Name == b.Name && a.Type == 5 {
		broken = append(broken, 4)
	}
	if a.Name == apex && a.Type == 5 {
		broken = append(broken, 5)
	}
	isAtCut := a.Type == 2 && a.Name != apex && wantBelowName(b.Name, a.Name)
	if isAtCut && b.Type != 1 && !(b.Type == 2 && b.Name == a.Name) {
		broken = append(broken, 6)
	}
	return broken
}

// wantBroken are all rules that are broken, rising; the chapter tells the first one.
func wantBroken(apex string, l []impl.Record) []int {
	var broken []int
	if !slices.ContainsFunc(l, func(r impl.Record) bool { return r.Type == 6 }) {
		broken = append(broken, 2)
	}
	for i, a := range l {
		for k, b := range l {
			broken = append(broken, wantPairRules(apex, a, b, i == k)...)
		}
	}
	slices.Sort(broken)
	return slices.Compact(broken)
}

func wantRule(apex string, l []impl.Record) int {
	if !wantAsSaid(apex, l) {
		return 9
	}
	return append(wantBroken(apex, l), 0)[0]
}

func wantGoodZone(z impl.Zone) bool {
	if !wantCounter(z.Counter) || wantRule(z.Apex, z.Records) != 0 {
		return false
	}
	at := slices.IndexFunc(z.Records, func(r impl.Record) bool { return r.Type == 6 })
	return z.Records[at].Data == fmt.Sprint(z.Counter%allSerials)
}

func wantNewZone(apex string) (impl.Zone, bool) {
	if !wantApex(apex) {
		return impl.Zone{}, false
	}
	return impl.Zone{Apex: apex, Records: []impl.Record{{Name: apex, Type: 6, Ttl: 60, Data: "0"}}}, true
}

func wantSet(z impl.Zone, name string, kind int) ([]impl.Record, bool) {
	if !wantGoodZone(z) || !wantGood(name) || !slices.Contains(sixTypes, kind) {
		return nil, false
	}
	var set []impl.Record
	for _, r := range z.Records {
		if r.Name == name && r.Type == kind {
			set = append(set, r)
		}
	}
	return set, true
}

func wantNames(z impl.Zone) ([]string, bool) {
	if !wantGoodZone(z) {
		return nil, false
	}
	var names []string
	for _, r := range z.Records {
		if !slices.Contains(names, r.Name) {
			names = append(names, r.Name)
		}
	}
	return names, true
}

func wantZoneSerial(z impl.Zone) (int, bool) {
	if !wantGoodZone(z) {
		return 0, false
	}
	return wantSerialOf(z.Counter)
}

func wantZoneText(z impl.Zone) (string, bool) {
	if !wantGoodZone(z) {
		return "", false
	}
	apex := z.Apex
	if apex == "" {
		apex = "."
	}
	lines := []string{fmt.Sprintf("%s %d", apex, z.Counter)}
	for _, r := range z.Records {
		line, _ := wantRecordText(r)
		lines = append(lines, line)
	}
	return strings.Join(lines, "\n"), true
}

func wantZoneFrom(s string) (impl.Zone, bool) {
	lines := strings.Split(s, "\n")
	parts := zoneHeadForm.FindStringSubmatch(lines[0])
	if parts == nil || len(lines) > 1+mostInZone {
		return impl.Zone{}, false
	}
	counter, err := strconv.Atoi(parts[2])
	z := impl.Zone{Apex: parts[1], Counter: counter}
	if z.Apex == "." {
		z.Apex = ""
	}
	for _, line := range lines[1:] {
		r, ok := wantRecordFrom(line)
		if !ok {
			return impl.Zone{}, false
		}
		z.Records = append(z.Records, r)
	}
	if err != nil || !wantGoodZone(z) {
		return impl.Zone{}, false
	}
	return z, true
}

func wantChanges(l []impl.Change) bool {
	for _, c := range l {
		if c.Kind < 1 || c.Kind > 4 || c.Record.Type == 6 || !wantGoodRecord(c.Record) {
			return false
		}
	}
	return len(l) <= mostInBatch
}

func wantNeeds(records []impl.Record, l []impl.Change) bool {
	for _, c := range l {
		has := slices.ContainsFunc(records, func(r impl.Record) bool { return r.Name == c.Record.Name && r.Type == c.Record.Type })
		if c.Kind == 3 && !has || c.Kind == 4 && has {
			return false
		}
	}
	return true
}

// wantDone does the changes upon a list, one behind the other, and sorts it in the end.
func wantDone(records []impl.Record, l []impl.Change) []impl.Record {
	records = slices.Clone(records)
	for _, c := range l {
		if c.Kind > 2 {
			continue
		}
		records = slices.DeleteFunc(records, func(r impl.Record) bool {
			return r.Name == c.Record.Name && r.Type == c.Record.Type && r.Data == c.Record.Data
		})
		if c.Kind == 1 {
			records = append(records, c.Record)
		}
	}
	slices.SortFunc(records, func(a, b impl.Record) int { return strings.Compare(recordKey(a), recordKey(b)) })
	return records
}

func wantBatch(z impl.Zone, l []impl.Change) (impl.Zone, int) {
	if !wantGoodZone(z) {
		return impl.Zone{}, 1
	}
	if !wantChanges(l) {
		return z, 1
	}
	if !wantNeeds(z.Records, l) {
		return z, 2
	}
	records := wantDone(z.Records, l)
	if len(records) > mostInZone || z.Counter == mostCounter {
		return z, 4
	}
	if wantRule(z.Apex, records) != 0 {
		return z, 3
	}
	for i := range records {
		if records[i].Type == 6 {
			records[i].Data = fmt.Sprint((z.Counter + 1) % allSerials)
		}
	}
	return impl.Zone{Apex: z.Apex, Counter: z.Counter + 1, Records: records}, 0
}

func alikeZones(a, b impl.Zone) bool {
	return a.Apex == b.Apex && a.Counter == b.Counter && slices.Equal(a.Records, b.Records)
}

// randomZoneName draws from few names about the apex, with some that are not below it.
func randomZoneName(r *rand.Rand, apex string) string {
	front := []string{"", "", "a.", "b.", "c.a.", "*.", "*.a.", "d.", "e.d.", "f.e.d.", "ns.d."}[r.Intn(11)]
	if r.Intn(60) == 0 {
		return front + "other"
	}
	return strings.TrimSuffix(front+apex, ".")
}

// randomZoneRecord leans on records that may stand together, so that zones grow, and draws such data twice.
func randomZoneRecord(r *rand.Rand, apex string) impl.Record {
	made := impl.Record{Name: randomZoneName(r, apex), Ttl: 60}
	made.Type = []int{1, 1, 1, 1, 1, 1, 1, 15, 16, 16, 2, 5}[r.Intn(12)]
	switch made.Type {
	case 1:
		made.Data = fmt.Sprintf("1.2.%d.%d", r.Intn(2), r.Intn(4))
	case 15:
		made.Data = fmt.Sprintf("%d mx.other", r.Intn(3))
	case 16:
		made.Data = []string{"", " ", "note", "note  "}[r.Intn(4)]
	default:
		made.Data = []string{"a.other", "b.other"}[r.Intn(2)]
	}
	if r.Intn(30) == 0 {
		made.Ttl = 61
	}
	return made
}

// randomBatch asks for what is so more often than not, and takes away what is there.
func randomBatch(r *rand.Rand, z impl.Zone, most int) []impl.Change {
	l := make([]impl.Change, r.Intn(most+1))
	for i := range l {
		l[i] = impl.Change{Kind: 1 + r.Intn(2), Record: randomZoneRecord(r, z.Apex)}
		at := z.Records[r.Intn(len(z.Records))]
		if l[i].Kind == 2 && at.Type != 6 && r.Intn(2) == 0 {
			l[i].Record = at
		}
		if r.Intn(6) > 0 {
			continue
		}
		l[i].Kind = 4
		if !wantNeeds(z.Records, l[i:i+1]) {
			l[i].Kind = 3
		}
		if r.Intn(12) == 0 {
			l[i].Kind = 7 - l[i].Kind
		}
	}
	return l
}

// goodRandomZone has gone through some of the model's batches from any counter on.
func goodRandomZone(r *rand.Rand) impl.Zone {
	apex := []string{"ex.com", "", "com", "a.b.c"}[r.Intn(4)]
	counter := []int{0, r.Intn(100), allSerials - r.Intn(9), r.Intn(mostCounter), mostCounter - 100 + r.Intn(101)}[r.Intn(5)]
	z := impl.Zone{Apex: apex, Counter: counter}
	z.Records = []impl.Record{{Name: apex, Type: 6, Ttl: r.Intn(100), Data: fmt.Sprint(counter % allSerials)}}
	for range r.Intn(25) {
		z, _ = wantBatch(z, randomBatch(r, z, 3))
	}
	return z
}

// damagedZone changes one thing about a zone; the zone handed in stays as it is.
func damagedZone(r *rand.Rand, z impl.Zone) impl.Zone {
	z.Records = slices.Clone(z.Records)
	if len(z.Records) == 0 {
		z.Records = []impl.Record{randomRecord(r)}
	}
	at, other := r.Intn(len(z.Records)), r.Intn(len(z.Records))
	switch r.Intn(10) {
	case 0:
		z.Apex = damaged(r, z.Apex)
	case 1:
		z.Counter = randomInt(r)
	case 2:
		z.Records[at], z.Records[other] = z.Records[other], z.Records[at]
	case 3:
		z.Records = slices.Insert(z.Records, at, z.Records[other])
	case 4:
		z.Records = slices.Delete(z.Records, at, at+1)
	case 5:
		z.Records[at].Data = damaged(r, z.Records[at].Data)
	case 6:
		z.Records[at].Name = damaged(r, z.Records[at].Name)
	case 7:
		z.Records[at].Ttl = r.Intn(200000) - 50000
	case 8:
		z.Records[at].Type = r.Intn(18)
	case 9:
		z.Records = wantDone(z.Records, []impl.Change{{Kind: 1, Record: randomRecord(r)}})
	}
	return z
}
