package tests

import (
	"encoding/binary"
	"fmt"
	"math/rand"
	"regexp"
	"slices"
	"strconv"
	"strings"

	"loop.example/g00300/impl"
)

var sixTypes = []int{1, 2, 5, 6, 15, 16}

const numberForm = `(0|[1-9][0-9]*)`

// dataForms are the chapter's sentence on data, a form a type; names and how great a number is are asked apart.
var dataForms = map[int]*regexp.Regexp{
	1:  regexp.MustCompile(`\A` + numberForm + `\.` + numberForm + `\.` + numberForm + `\.` + numberForm + `\z`),
	2:  regexp.MustCompile(`\A([a-z0-9._-]+)\z`),
	5:  regexp.MustCompile(`\A([a-z0-9._-]+)\z`),
	6:  regexp.MustCompile(`\A` + numberForm + `\z`),
	15: regexp.MustCompile(`\A` + numberForm + ` ([a-z0-9._-]+)\z`),
	16: regexp.MustCompile(`\A([ -~]{0,30})\z`),
}

var recordForm = regexp.MustCompile(`(?s)\A([^ ]+) ` + numberForm + ` ` + numberForm + ` (.*)\z`)

func wantDataBytes(kind int, data string) (string, bool) {
	form := dataForms[kind]
	if form == nil {
		return "", false
	}
	parts := form.FindStringSubmatch(data)
	if parts == nil {
		return "", false
	}
	switch kind {
	case 1:
		b := ""
		for _, part := range parts[1:] {
			n, err := strconv.ParseUint(part, 10, 8)
			if err != nil {
				return "", false
			}
			b += string([]byte{byte(n)})
		}
		return b, true
	case 6:
		n, err := strconv.ParseUint(parts[1], 10, 32)
		if err != nil {
			return "", false
		}
		return string(binary.BigEndian.AppendUint32(nil, uint32(n))), true
	case 15:
		n, err := strconv.ParseUint(parts[1], 10, 16)
		if err != nil || !wantGood(parts[2]) {
			return "", false
		}
		return string(binary.BigEndian.AppendUint16(nil, uint16(n))) + wantPlain(parts[2]), true
	case 16:
		return string([]byte{byte(len(data))}) + data, true
	}
	if !wantGood(data) {
		return "", false
	}
	return wantPlain(data), true
}

// wantDotted reads labels behind their lengths, and knows of nothing else.
func wantDotted(b string) string {
	var labels []string
	for len(b) > 1 && int(b[0]) < len(b) {
		labels = append(labels, b[1:1+b[0]])
		b = b[1+b[0]:]
	}
	return strings.Join(labels, ".")
}

// wantDataFrom guesses, and asks whether just these are the bytes of its guess.
func wantDataFrom(kind int, b string) (string, bool) {
	guess := ""
	switch {
	case kind == 1 && len(b) == 4:
		guess = fmt.Sprintf("%d.%d.%d.%d", b[0], b[1], b[2], b[3])
	case kind == 2 || kind == 5:
		guess = wantDotted(b)
	case kind == 6 && len(b) == 4:
		guess = fmt.Sprint(binary.BigEndian.Uint32([]byte(b)))
	case kind == 15 && len(b) > 2:
		guess = fmt.Sprint(binary.BigEndian.Uint16([]byte(b))) + " " + wantDotted(b[2:])
	case kind == 16 && len(b) > 0:
		guess = b[1:]
	}
	if again, ok := wantDataBytes(kind, guess); !ok || again != b {
		return "", false
	}
	return guess, true
}

func wantGoodRecord(r impl.Record) bool {
	_, ok := wantDataBytes(r.Type, r.Data)
	return ok && wantGood(r.Name) && r.Ttl >= 0 && r.Ttl <= 100000
}

func wantRecordText(r impl.Record) (string, bool) {
	if !wantGoodRecord(r) {
		return "", false
	}
	name := r.Name
	if name == "" {
		name = "."
	}
	return fmt.Sprintf("%s %d %d %s", name, r.Ttl, r.Type, r.Data), true
}

func wantRecordFrom(s string) (impl.Record, bool) {
	parts := recordForm.FindStringSubmatch(s)
	if parts == nil {
		return impl.Record{}, false
	}
	ttl, err := strconv.Atoi(parts[2])
	kind, err2 := strconv.Atoi(parts[3])
	r := impl.Record{Name: parts[1], Type: kind, Ttl: ttl, Data: parts[4]}
	if r.Name == "." {
		r.Name = ""
	}
	if err != nil || err2 != nil || !wantGoodRecord(r) {
		return impl.Record{}, false
	}
	return r, true
}

func wantTarget(r impl.Record) (string, bool) {
	if !wantGoodRecord(r) || !slices.Contains([]int{2, 5, 15}, r.Type) {
		return "", false
	}
	return r.Data[strings.Index(r.Data, " ")+1:], true
}

// recordKey is a text whose order by bytes is the order of good records.
func recordKey(r impl.Record) string {
	b, _ := wantDataBytes(r.Type, r.Data)
	return orderKey(r.Name) + "\x00" + fmt.Sprintf("%03d", r.Type) + escaped(b) + fmt.Sprintf("%06d", r.Ttl)
}

// escaped keeps the order by bytes, and no such text begins another one.
func escaped(b string) string {
	return strings.ReplaceAll(b, "\x00", "\x00\x01") + "\x00\x00"
}

func wantRecordOrder(a, b impl.Record) (int, bool) {
	if !wantGoodRecord(a) || !wantGoodRecord(b) {
		return 0, false
	}
	return strings.Compare(recordKey(a), recordKey(b)), true
}

type setKey struct {
	name string
	kind int
}

// wantSets gathers first and sorts then.
func wantSets(l []impl.Record) ([]impl.Set, bool) {
	ttls := map[setKey]int{}
	data := map[setKey][]string{}
	for _, r := range l {
		key := setKey{r.Name, r.Type}
		if ttl, known := ttls[key]; len(l) > 60 || !wantGoodRecord(r) || known && ttl != r.Ttl {
			return nil, false
		}
		ttls[key] = r.Ttl
		if !slices.Contains(data[key], r.Data) {
			data[key] = append(data[key], r.Data)
		}
	}
	var sets []impl.Set
	for key, ttl := range ttls {
		slices.SortFunc(data[key], func(a, b string) int { return compareData(key.kind, a, b) })
		sets = append(sets, impl.Set{Name: key.name, Type: key.kind, Ttl: ttl, Data: data[key]})
	}
	slices.SortFunc(sets, compareSets)
	if len(sets) > 40 {
		return nil, false
	}
	return sets, true
}

func compareData(kind int, a, b string) int {
	first, _ := wantDataBytes(kind, a)
	second, _ := wantDataBytes(kind, b)
	return strings.Compare(first, second)
}

func compareSets(a, b impl.Set) int {
	if order := wantOrder(a.Name, b.Name); order != 0 {
		return order
	}
	return a.Type - b.Type
}

// wantRecords asks for each thing that the chapter says of sets, one by one.
func wantRecords(l []impl.Set) ([]impl.Record, bool) {
	var records []impl.Record
	for i, set := range l {
		if len(l) > 40 || len(set.Data) == 0 || i > 0 && compareSets(l[i-1], set) >= 0 {
			return nil, false
		}
		for k, data := range set.Data {
			r := impl.Record{Name: set.Name, Type: set.Type, Ttl: set.Ttl, Data: data}
			if len(records) == 60 || !wantGoodRecord(r) || k > 0 && compareData(set.Type, set.Data[k-1], data) >= 0 {
				return nil, false
			}
			records = append(records, r)
		}
	}
	return records, true
}

func alikeSets(a, b []impl.Set) bool {
	return slices.EqualFunc(a, b, func(x, y impl.Set) bool {
		return x.Name == y.Name && x.Type == y.Type && x.Ttl == y.Ttl && slices.Equal(x.Data, y.Data)
	})
}

// randomData draws from few, so that data is often told twice; now and then it is of no type, or of another one.
func randomData(r *rand.Rand, kind int) string {
	number := []string{"0", "1", "9", "10", "99", "100", "200", "255", "256", "01", "300", "-1", "+1", ""}
	// The last six are no numbers, or too great for TypeA: half of the draws leave them out.
	part := func() string { return number[r.Intn(len(number)-6*r.Intn(2))] }
	switch kind {
	case 1:
		parts := []string{part(), part(), part(), part(), part()}
		return strings.Join(parts[:4+r.Intn(16)/15-r.Intn(16)/15], ".")
	case 6:
		return []string{"4294967295", "4294967296", "65536", "16777216", part(), part(), part()}[r.Intn(7)]
	case 15:
		return []string{"65535", "65536", "256", part(), part()}[r.Intn(5)] + " " + randomName(r)
	case 16:
		return strings.Repeat("~ a", r.Intn(12)) + string([]byte{byte(r.Intn(130))})
	}
	return randomName(r)
}

func randomRecord(r *rand.Rand) impl.Record {
	kind := sixTypes[r.Intn(6)]
	made := impl.Record{Name: randomName(r), Type: kind, Ttl: r.Intn(3), Data: randomData(r, kind)}
	switch r.Intn(40) {
	case 0:
		made.Type = r.Intn(20)
	case 1:
		made.Ttl = []int{-1, 99999, 100000, 100001}[r.Intn(4)]
	case 2:
		made.Name = randomText(r)
	case 3:
		made.Data = randomText(r)
	}
	return made
}

// goodRandomRecord draws from few names and one Ttl a name, so that sets have several records.
func goodRandomRecord(r *rand.Rand) impl.Record {
	for {
		made := randomRecord(r)
		made.Name = []string{"", "a", "b", "a.b", "*.b", "c.a"}[r.Intn(6)]
		made.Ttl = 5 * len(made.Name)
		if wantGoodRecord(made) {
			return made
		}
	}
}

func goodRandomRecords(r *rand.Rand, most int) []impl.Record {
	l := make([]impl.Record, r.Intn(most+1))
	for i := range l {
		l[i] = goodRandomRecord(r)
	}
	return l
}

// manyRecords are of unlike names, each in a set of its own.
func manyRecords(many int) []impl.Record {
	var l []impl.Record
	for i := range many {
		l = append(l, impl.Record{Name: fmt.Sprintf("n%02d.ex", i), Type: 1, Ttl: 7, Data: "1.2.3.4"})
	}
	return l
}

// manyOfOne are of one name and type.
func manyOfOne(many int) []impl.Record {
	var l []impl.Record
	for i := range many {
		l = append(l, impl.Record{Name: "ex", Type: 1, Ttl: 7, Data: fmt.Sprintf("1.2.3.%d", i)})
	}
	return l
}

// shown keeps what a failed test prints short: some of the arguments are very long.
func shown(v any) string {
	text := fmt.Sprintf("%#v", v)
	if len(text) > 1000 {
		return text[:1000] + " .."
	}
	return text
}
