package tests

import (
	"fmt"
	"math"
	"math/rand"
	"slices"
	"strings"
	"testing"

	"loop.example/g00300/impl"
)

func soaOf(apex string, counter int) impl.Record {
	return impl.Record{Name: apex, Type: 6, Ttl: 60, Data: fmt.Sprint(counter % allSerials)}
}

func addressOf(name string, last int) impl.Record {
	return impl.Record{Name: name, Type: 1, Ttl: 60, Data: fmt.Sprintf("1.2.3.%d", last)}
}

func hostOf(name string, kind int, host string) impl.Record {
	return impl.Record{Name: name, Type: kind, Ttl: 60, Data: host}
}

// inOrder puts records into the order of zones, whatever they are.
func inOrder(l ...impl.Record) []impl.Record {
	return wantDone(l, nil)
}

// zoneOf has a TypeSoa record of its own, and these.
func zoneOf(apex string, counter int, l ...impl.Record) impl.Zone {
	return impl.Zone{Apex: apex, Counter: counter, Records: inOrder(append(slices.Clone(l), soaOf(apex, counter))...)}
}

// fullZone has so many records, its TypeSoa record among them.
func fullZone(many, counter int) impl.Zone {
	var l []impl.Record
	for i := range many - 1 {
		l = append(l, addressOf(fmt.Sprintf("n%02d.ex.com", i), i))
	}
	return zoneOf("ex.com", counter, l...)
}

// oneOfEachType are records at one name, but for TypeSoa.
func oneOfEachType(name string) []impl.Record {
	return []impl.Record{
		addressOf(name, 1), hostOf(name, 2, "ns.other"), hostOf(name, 5, "cn.other"), hostOf(name, 15, "10 mx.other"), noteOf(name, "note"),
	}
}

func wantRuleIs(t *testing.T, rule int, apex string, l ...impl.Record) {
	t.Helper()
	if got := impl.RuleOf(apex, l); got != rule {
		t.Errorf("RuleOf(%q, %s) = %d; want %d", apex, shown(l), got, rule)
	}
}

func wantNoZone(t *testing.T, z impl.Zone) {
	t.Helper()
	if impl.GoodZone(z) {
		t.Errorf("GoodZone(%s)", shown(z))
	}
	if n, ok := impl.SerialIn(z); n != 0 || ok {
		t.Errorf("SerialIn(%s) = %d, %v", shown(z), n, ok)
	}
	if l, ok := impl.NamesIn(z); len(l) != 0 || ok {
		t.Errorf("NamesIn(%s) = %q, %v", shown(z), l, ok)
	}
	for _, kind := range sixTypes {
		if l, ok := impl.SetIn(z, "ex.com", kind); len(l) != 0 || ok {
			t.Errorf("SetIn(%s) = %s, %v", shown(z), shown(l), ok)
		}
	}
	if s, ok := impl.ZoneText(z); s != "" || ok {
		t.Errorf("ZoneText(%s) = %q, %v", shown(z), s, ok)
	}
	for _, l := range [][]impl.Change{nil, {{Kind: 1, Record: addressOf("a.ex.com", 1)}}, make([]impl.Change, 13)} {
		if got, code := impl.ApplyBatch(z, l); !alikeZones(got, impl.Zone{}) || code != 1 {
			t.Errorf("ApplyBatch(%s) = %s, %d", shown(z), shown(got), code)
		}
	}
}

// wantZone asks for all that is told of a good zone, and reads its text again.
func wantZone(t *testing.T, z impl.Zone) string {
	t.Helper()
	serial, _ := wantZoneSerial(z)
	if n, ok := impl.SerialIn(z); n != serial || !ok || !impl.GoodZone(z) || impl.RuleOf(z.Apex, z.Records) != 0 {
		t.Errorf("SerialIn(%s) = %d, %v; want %d", shown(z), n, ok, serial)
	}
	names, _ := wantNames(z)
	if l, ok := impl.NamesIn(z); !slices.Equal(l, names) || !ok {
		t.Errorf("NamesIn(%s) = %q, %v; want %q", shown(z), l, ok, names)
	}
	text, _ := wantZoneText(z)
	if s, ok := impl.ZoneText(z); s != text || !ok || s == "" {
		t.Errorf("ZoneText(%s) = %q, %v; want %q", shown(z), s, ok, text)
	}
	if back, ok := impl.ReadZone(text); !alikeZones(back, z) || !ok {
		t.Errorf("ReadZone(%q) = %s, %v; want %s", text, shown(back), ok, shown(z))
	}
	return text
}

func wantSetIs(t *testing.T, z impl.Zone, name string, kind int, l ...impl.Record) {
	t.Helper()
	if got, ok := impl.SetIn(z, name, kind); !slices.Equal(got, l) || !ok {
		t.Errorf("SetIn(%q, %d) = %s, %v; want %s", name, kind, shown(got), ok, shown(l))
	}
}

func wantNoSet(t *testing.T, z impl.Zone, name string, kind int) {
	t.Helper()
	if got, ok := impl.SetIn(z, name, kind); len(got) != 0 || ok {
		t.Errorf("SetIn(%q, %d) = %s, %v; want none, false", name, kind, shown(got), ok)
	}
}

func wantNoZoneFrom(t *testing.T, s string) {
	t.Helper()
	if z, ok := impl.ReadZone(s); !alikeZones(z, impl.Zone{}) || ok {
		t.Errorf("ReadZone(%.200q) = %s, %v; want none, false", s, shown(z), ok)
	}
}

func TestZoneConstants(t *testing.T) {
	got := []int{
		impl.MaxZone, impl.MaxBatch, impl.ChangeAdd, impl.ChangeDel, impl.ChangeHas, impl.ChangeNot,
		impl.BatchOk, impl.BatchBad, impl.BatchNeed, impl.BatchRule, impl.BatchFull,
	}
	if !slices.Equal(got, []int{40, 12, 1, 2, 3, 4, 0, 1, 2, 3, 4}) {
		t.Error(got)
	}
}

func TestNewZone(t *testing.T) {
	for _, apex := range goodNames() {
		z, ok := impl.NewZone(apex)
		if strings.Contains(apex, "*") {
			if !alikeZones(z, impl.Zone{}) || ok {
				t.Errorf("NewZone(%q) = %s, %v", apex, shown(z), ok)
			}
			continue
		}
		if !alikeZones(z, impl.Zone{Apex: apex, Records: []impl.Record{{Name: apex, Type: 6, Ttl: 60, Data: "0"}}}) || !ok {
			t.Errorf("NewZone(%q) = %s, %v", apex, shown(z), ok)
		}
		wantZone(t, z)
	}
	for _, apex := range badNames() {
		if z, ok := impl.NewZone(apex); !alikeZones(z, impl.Zone{}) || ok {
			t.Errorf("NewZone(%.80q) = %s, %v", apex, shown(z), ok)
		}
	}
}

func TestApexesOfZones(t *testing.T) {
	if s := wantZone(t, zoneOf("", 7)); s != ". 7\n. 60 6 7" {
		t.Error(s)
	}
	if s := wantZone(t, zoneOf("", 7, addressOf("com", 1), addressOf("", 2), addressOf("*", 3))); s != ". 7\n. 60 1 1.2.3.2\n. 60 6 7\n* 60 1 1.2.3.3\ncom 60 1 1.2.3.1" {
		t.Error(s)
	}
	for _, apex := range append(badNames(), "*", "*.com", "a.*.com", "a.*", stars8) {
		z := impl.Zone{Apex: apex, Records: []impl.Record{soaOf(apex, 0)}}
		wantNoZone(t, z)
		wantRuleIs(t, 9, apex, z.Records...)
		wantRuleIs(t, 9, apex)
		// A dot is no name, but the text of one.
		if len(apex) < 100 && apex != "." {
			wantNoZoneFrom(t, apex+" 0\n"+apex+" 60 6 0")
		}
	}
	for _, apex := range []string{name60, labels8, eightBig, label20} {
		wantZone(t, zoneOf(apex, 1, addressOf(apex, 1)))
	}
}

func TestCountersOfZones(t *testing.T) {
	for _, counter := range counterEdges() {
		z := zoneOf("ex.com", counter, addressOf("a.ex.com", 1))
		want := fmt.Sprintf("ex.com %d\nex.com 60 6 %d\na.ex.com 60 1 1.2.3.1", counter, counter%allSerials)
		if s := wantZone(t, z); s != want {
			t.Errorf("%q; want %q", s, want)
		}
	}
	for _, counter := range badCounters() {
		for _, data := range []string{"0", "1", fmt.Sprint(counter & (allSerials - 1))} {
			z := impl.Zone{Apex: "ex.com", Counter: counter, Records: []impl.Record{{Name: "ex.com", Type: 6, Ttl: 60, Data: data}}}
			wantNoZone(t, z)
			wantNoZoneFrom(t, fmt.Sprintf("ex.com %d\nex.com 60 6 %s", counter, data))
		}
	}
}

func TestSerialsOfZones(t *testing.T) {
	for _, counter := range []int{0, 1, 5, allSerials - 1, allSerials, allSerials + 1, 2 * allSerials, 3*allSerials + 7, mostCounter - 1, mostCounter} {
		for _, serial := range []int{0, 1, 4, 5, 6, 7, 8, allSerials - 2, allSerials - 1} {
			z := impl.Zone{Apex: "ex.com", Counter: counter, Records: []impl.Record{soaOf("ex.com", serial)}}
			if serial == counter%allSerials {
				wantZone(t, z)
			} else {
				wantNoZone(t, z)
				wantRuleIs(t, 0, z.Apex, z.Records...)
				wantNoZoneFrom(t, fmt.Sprintf("ex.com %d\nex.com 60 6 %d", counter, serial))
			}
		}
		// The counter itself is no data of TypeSoa where it does not fit, and so no record at all.
		z := impl.Zone{Apex: "ex.com", Counter: counter, Records: []impl.Record{{Name: "ex.com", Type: 6, Ttl: 60, Data: fmt.Sprint(counter)}}}
		if impl.GoodZone(z) != (counter < allSerials) {
			t.Error(counter)
		}
	}
	for _, ttl := range []int{0, 1, 59, 60, 61, 100000} {
		z := zoneOf("ex.com", 3)
		z.Records[0].Ttl = ttl
		wantZone(t, z)
	}
}

func TestHowManyRecordsZonesHave(t *testing.T) {
	wantNoZone(t, impl.Zone{Apex: "ex.com"})
	wantNoZone(t, impl.Zone{Apex: "ex.com", Records: []impl.Record{}})
	wantNoZone(t, impl.Zone{})
	wantRuleIs(t, 2, "ex.com")
	wantRuleIs(t, 2, "")
	wantZone(t, fullZone(1, 0))
	wantZone(t, fullZone(39, 0))
	wantZone(t, fullZone(40, 0))
	wantNoZone(t, fullZone(41, 0))
	wantRuleIs(t, 9, "ex.com", fullZone(41, 0).Records...)
	wantRuleIs(t, 9, "ex.com", fullZone(42, 0).Records[1:]...)
	wantRuleIs(t, 9, "ex.net", fullZone(41, 0).Records...)
	wantRuleIs(t, 9, "ex.com", make([]impl.Record, 1000)...)
	one := zoneOf("ex.com", 0)
	for last := range 39 {
		one.Records = inOrder(append(one.Records, addressOf("a.ex.com", last))...)
		wantZone(t, one)
	}
	one.Records = append(one.Records, addressOf("a.ex.com", 200))
	wantNoZone(t, one)
	wantRuleIs(t, 9, "ex.com", one.Records...)
}

func TestRecordsThatDoNotRise(t *testing.T) {
	good := zoneOf("ex.com", 0, addressOf("a.ex.com", 1), addressOf("a.ex.com", 2), noteOf("a.ex.com", "x"), addressOf("b.a.ex.com", 1), addressOf("b.ex.com", 1))
	wantZone(t, good)
	for i := range good.Records {
		twice := slices.Insert(slices.Clone(good.Records), i, good.Records[i])
		wantRuleIs(t, 9, "ex.com", twice...)
		wantNoZone(t, impl.Zone{Apex: "ex.com", Records: twice})
		for k := range i {
			swapped := slices.Clone(good.Records)
			swapped[i], swapped[k] = swapped[k], swapped[i]
			wantRuleIs(t, 9, "ex.com", swapped...)
			wantNoZone(t, impl.Zone{Apex: "ex.com", Records: swapped})
		}
	}
	// In the order of texts 10 stands ahead of 9, and in the order of bytes behind it.
	wantRuleIs(t, 0, "ex.com", soaOf("ex.com", 0), addressOf("a.ex.com", 9), addressOf("a.ex.com", 10))
	wantRuleIs(t, 9, "ex.com", soaOf("ex.com", 0), addressOf("a.ex.com", 10), addressOf("a.ex.com", 9))
	later := addressOf("a.ex.com", 9)
	later.Ttl = 61
	wantRuleIs(t, 3, "ex.com", soaOf("ex.com", 0), addressOf("a.ex.com", 9), later)
	wantRuleIs(t, 9, "ex.com", soaOf("ex.com", 0), later, addressOf("a.ex.com", 9))
}

func TestRecordsOfZonesThatAreNotGood(t *testing.T) {
	for _, bad := range []impl.Record{
		{}, {Name: "a.ex.com"}, {Name: "a.ex.com", Type: 1, Data: "1.2.3"}, {Name: "a.ex.com", Type: 1, Data: "01.2.3.4"},
		{Name: "A.ex.com", Type: 16}, {Name: "a..ex.com", Type: 16}, {Name: "a.ex.com", Type: 7, Data: "x"}, {Name: "a.ex.com", Type: 16, Ttl: -1},
		{Name: "a.ex.com", Type: 16, Ttl: 100001}, {Name: "a.ex.com", Type: 5, Data: "*.ex.com"}, {Name: "a.ex.com", Type: 2},
		{Name: "a.ex.com", Type: math.MinInt}, {Name: "a.ex.com", Type: 16, Ttl: math.MaxInt}, {Name: "a.ex.com", Type: math.MaxInt, Ttl: math.MinInt},
	} {
		for _, l := range [][]impl.Record{{soaOf("ex.com", 0), bad}, {bad, soaOf("ex.com", 0)}, {bad}, {soaOf("ex.com", 0), bad, addressOf("b.ex.com", 1)}} {
			wantRuleIs(t, 9, "ex.com", l...)
			wantNoZone(t, impl.Zone{Apex: "ex.com", Records: l})
		}
	}
}

// breakers have for each rule but the fifth, which none breaks alone, records that break it and no other one.
func breakers() map[int][][]impl.Record {
	other := addressOf("t.ex.com", 1)
	other.Ttl = 61
	later := addressOf("t.ex.com", 2)
	later.Ttl = 59
	return map[int][][]impl.Record{
		1: {{addressOf("ex.net", 1)}, {addressOf("com", 1)}, {addressOf("", 1)}, {addressOf("aex.com", 1)}, {addressOf("*", 1)}, {hostOf("net", 5, "x")}},
		2: {{soaOf("ex.com", 7)}, {soaOf("a.ex.com", 0)}, {soaOf("*.ex.com", 0)}},
		3: {{addressOf("t.ex.com", 1), other}, {addressOf("t.ex.com", 1), later}, {addressOf("t.ex.com", 1), addressOf("t.ex.com", 3), later}},
		4: {
			{hostOf("c.ex.com", 5, "x"), addressOf("c.ex.com", 1)}, {hostOf("c.ex.com", 5, "x"), noteOf("c.ex.com", "")}, {hostOf("c.ex.com", 5, "x"), hostOf("c.ex.com", 5, "y")},
			{hostOf("c.ex.com", 5, "x"), hostOf("c.ex.com", 15, "1 x")}, {hostOf("*.ex.com", 5, "x"), addressOf("*.ex.com", 1)},
		},
		6: {
			{hostOf("d.ex.com", 2, "x"), noteOf("d.ex.com", "")}, {hostOf("d.ex.com", 2, "x"), noteOf("e.d.ex.com", "")},
			{hostOf("d.ex.com", 2, "x"), hostOf("e.d.ex.com", 2, "x")}, {hostOf("d.ex.com", 2, "x"), hostOf("e.d.ex.com", 5, "x")},
		},
	}
}

func withSoa(l ...impl.Record) []impl.Record {
	return inOrder(append([]impl.Record{soaOf("ex.com", 0)}, l...)...)
}

func TestEachRuleBrokenAlone(t *testing.T) {
	wantRuleIs(t, 0, "ex.com", withSoa()...)
	wantRuleIs(t, 0, "ex.com", withSoa(addressOf("ex.com", 1), addressOf("a.ex.com", 1), addressOf("*.a.ex.com", 1), hostOf("c.ex.com", 5, "x"))...)
	wantRuleIs(t, 2, "ex.com", addressOf("ex.com", 1))
	wantRuleIs(t, 2, "ex.com", soaOf("a.ex.com", 0))
	for rule, lists := range breakers() {
		for _, l := range lists {
			if broken := wantBroken("ex.com", withSoa(l...)); !slices.Equal(broken, []int{rule}) {
				t.Fatal(rule, broken, shown(l))
			}
			wantRuleIs(t, rule, "ex.com", withSoa(l...)...)
			wantNoZone(t, impl.Zone{Apex: "ex.com", Records: withSoa(l...)})
		}
	}
}

// Of two rules that are broken the first one is told, wherever the records stand.
func TestTwoRulesBroken(t *testing.T) {
	for one, lists := range breakers() {
		for other, otherLists := range breakers() {
			for _, a := range lists {
				for _, b := range otherLists {
					if one < other {
						wantRuleIs(t, one, "ex.com", withSoa(slices.Concat(a, b)...)...)
					}
				}
			}
		}
		for _, l := range lists {
			if one != 2 {
				wantRuleIs(t, min(one, 2), "ex.com", inOrder(l...)...)
			}
		}
	}
}

// A TypeCname record at the apex stands beside the TypeSoa record there, or there is none: rule 5 is never the first.
func TestCnamesAtTheApex(t *testing.T) {
	cname := hostOf("ex.com", 5, "x")
	wantRuleIs(t, 4, "ex.com", withSoa(cname)...)
	wantRuleIs(t, 4, "ex.com", withSoa(cname, hostOf("d.ex.com", 2, "x"), noteOf("d.ex.com", ""))...)
	wantRuleIs(t, 2, "ex.com", cname)
	wantRuleIs(t, 2, "ex.com", inOrder(cname, soaOf("a.ex.com", 0))...)
	wantRuleIs(t, 1, "com.ex", cname)
	wantRuleIs(t, 4, "", inOrder(hostOf("", 5, "x"), soaOf("", 0))...)
}

func TestRuleOfCuts(t *testing.T) {
	cut := hostOf("d.ex.com", 2, "ns.d.ex.com")
	wantRuleIs(t, 0, "ex.com", withSoa(cut)...)
	wantRuleIs(t, 0, "ex.com", withSoa(cut, hostOf("d.ex.com", 2, "ns.other"))...)
	for _, at := range []struct {
		name  string
		fault bool
	}{
		{"d.ex.com", true}, {"e.d.ex.com", true}, {"*.d.ex.com", true}, {"f.e.d.ex.com", true}, {"*.e.d.ex.com", true}, {"e.*.d.ex.com", true},
		{"ad.ex.com", false}, {"a.ex.com", false}, {"dd.ex.com", false}, {"d.a.ex.com", false}, {"*.ex.com", false}, {"ex.com", false},
	} {
		for _, r := range oneOfEachType(at.name) {
			rule := 0
			switch {
			case r.Type == 5 && (at.name == "d.ex.com" || at.name == "ex.com"):
				rule = 4
			case at.fault && r.Type != 1 && !(r.Type == 2 && at.name == "d.ex.com"):
				rule = 6
			}
			wantRuleIs(t, rule, "ex.com", withSoa(cut, r)...)
			wantRuleIs(t, rule, "ex.com", withSoa(cut, hostOf("d.ex.com", 2, "third"), r)...)
			wantRuleIs(t, rule, "ex.com", withSoa(cut, r, addressOf("ns.d.ex.com", 1), addressOf("d.ex.com", 2))...)
		}
	}
}

func TestCutsThatAreStarsOrTheApex(t *testing.T) {
	// TypeNS at the apex is no cut, whatever stands there and below it.
	at := withSoa(hostOf("ex.com", 2, "x"), hostOf("ex.com", 2, "y"), noteOf("ex.com", ""), hostOf("ex.com", 15, "1 x"), noteOf("a.ex.com", ""), hostOf("b.ex.com", 5, "x"), hostOf("c.ex.com", 2, "x"))
	wantRuleIs(t, 0, "ex.com", at...)
	wantRuleIs(t, 0, "", inOrder(soaOf("", 0), hostOf("", 2, "x"), noteOf("", ""), noteOf("a", ""), hostOf("b", 2, "x"), addressOf("a.b", 1))...)
	wantRuleIs(t, 6, "", inOrder(soaOf("", 0), hostOf("", 2, "x"), noteOf("a.b", ""), hostOf("b", 2, "x"))...)
	// A star with TypeNS is a cut of those below the star alone.
	star := hostOf("*.ex.com", 2, "x")
	wantRuleIs(t, 0, "ex.com", withSoa(star, noteOf("a.ex.com", ""), addressOf("*.ex.com", 1), addressOf("a.*.ex.com", 1))...)
	wantRuleIs(t, 6, "ex.com", withSoa(star, noteOf("*.ex.com", ""))...)
	wantRuleIs(t, 6, "ex.com", withSoa(star, noteOf("a.*.ex.com", ""))...)
	// A cut below a cut is none that may be, two side by side are.
	wantRuleIs(t, 6, "ex.com", withSoa(hostOf("d.ex.com", 2, "x"), hostOf("f.e.d.ex.com", 2, "x"))...)
	wantRuleIs(t, 0, "ex.com", withSoa(hostOf("d.ex.com", 2, "x"), hostOf("e.ex.com", 2, "x"), hostOf("d.a.ex.com", 2, "x"))...)
	// The last record of the list is looked at, too.
	wantRuleIs(t, 6, "ex.com", withSoa(hostOf("z.ex.com", 2, "x"), noteOf("z.ex.com", ""))...)
	wantRuleIs(t, 6, "ex.com", withSoa(hostOf("z.ex.com", 2, "x"), noteOf("z.z.ex.com", ""))...)
}

func TestSetIn(t *testing.T) {
	one, two, three := addressOf("a.ex.com", 9), addressOf("a.ex.com", 10), addressOf("a.ex.com", 100)
	note, star := noteOf("a.ex.com", "note"), noteOf("*.a.ex.com", "star")
	z := zoneOf("ex.com", allSerials+3, three, two, one, note, star, hostOf("ex.com", 2, "ns.ex.com"), hostOf("b.ex.com", 5, "a.ex.com"))
	wantSetIs(t, z, "a.ex.com", 1, one, two, three)
	wantSetIs(t, z, "a.ex.com", 16, note)
	wantSetIs(t, z, "*.a.ex.com", 16, star)
	wantSetIs(t, z, "ex.com", 6, soaOf("ex.com", 3))
	wantSetIs(t, z, "ex.com", 2, hostOf("ex.com", 2, "ns.ex.com"))
	wantSetIs(t, z, "b.ex.com", 5, hostOf("b.ex.com", 5, "a.ex.com"))
	// No star is looked at, and no TypeCname record followed: that is chapter 7's.
	wantSetIs(t, z, "x.a.ex.com", 16)
	wantSetIs(t, z, "b.ex.com", 1)
	for _, name := range []string{"", "com", "ex.net", "c.ex.com", "aa.ex.com", "*.ex.com", "*", name60} {
		for _, kind := range sixTypes {
			wantSetIs(t, z, name, kind)
		}
	}
	for _, kind := range []int{2, 5, 6, 15} {
		wantSetIs(t, z, "a.ex.com", kind)
	}
	for _, kind := range []int{0, -1, 3, 4, 7, 14, 17, 255, 256, 257, math.MinInt, math.MaxInt, allSerials + 1} {
		wantNoSet(t, z, "a.ex.com", kind)
		wantNoSet(t, z, "none.ex.com", kind)
	}
	for _, name := range badNames() {
		wantNoSet(t, z, name, 1)
		wantNoSet(t, z, name, 16)
	}
	root := zoneOf("", 1, addressOf("", 1), addressOf("com", 2))
	wantSetIs(t, root, "", 1, addressOf("", 1))
	wantNoSet(t, root, ".", 1)
}

func TestNamesIn(t *testing.T) {
	z := zoneOf("ex.com", 0)
	if l, ok := impl.NamesIn(z); !slices.Equal(l, []string{"ex.com"}) || !ok {
		t.Error(l, ok)
	}
	z = zoneOf("ex.com", 0, addressOf("b.ex.com", 1), addressOf("z.a.ex.com", 1), addressOf("a.ex.com", 1), addressOf("a.ex.com", 2), noteOf("a.ex.com", ""), addressOf("*.ex.com", 1), addressOf("y.x.w.ex.com", 1))
	// No name between: x.w and w have no records.
	if l, ok := impl.NamesIn(z); !slices.Equal(l, []string{"ex.com", "*.ex.com", "a.ex.com", "z.a.ex.com", "b.ex.com", "y.x.w.ex.com"}) || !ok {
		t.Error(l, ok)
	}
	if l, ok := impl.NamesIn(fullZone(40, 1)); len(l) != 40 || l[39] != "n38.ex.com" || !ok {
		t.Error(l, ok)
	}
	root := zoneOf("", 0, addressOf("com", 1))
	if l, ok := impl.NamesIn(root); !slices.Equal(l, []string{"", "com"}) || !ok {
		t.Error(l, ok)
	}
}

func TestTextsOfZones(t *testing.T) {
	z := zoneOf("ex.com", 12, noteOf("a.ex.com", ""), noteOf("a.ex.com", " a  b "), hostOf("ex.com", 15, "0 mx"))
	if s := wantZone(t, z); s != "ex.com 12\nex.com 60 6 12\nex.com 60 15 0 mx\na.ex.com 60 16 \na.ex.com 60 16  a  b " {
		t.Errorf("%q", s)
	}
	for _, s := range []string{
		"", "\n", " ", ".", "ex.com", "ex.com ", "ex.com 0", ". 0", "ex.com 0\n", "ex.com 60 6 0", "\nex.com 60 6 0", " 0\n. 60 6 0", "0\nex.com 60 6 0",
		"ex.com\nex.com 60 6 0", "ex.com \nex.com 60 6 0", "ex.com  0\nex.com 60 6 0", "ex.com 0 \nex.com 60 6 0", " ex.com 0\nex.com 60 6 0", "ex.com 0 0\nex.com 60 6 0",
		"ex.com 0\nex.com 60 6 0\n", "\nex.com 0\nex.com 60 6 0", "ex.com 0\n\nex.com 60 6 0", "ex.com 0\r\nex.com 60 6 0", "ex.com 0 ex.com 60 6 0", "ex.com 0\x00ex.com 60 6 0",
		"ex.com 00\nex.com 60 6 0", "ex.com 01\nex.com 60 6 1", "ex.com +1\nex.com 60 6 1", "ex.com -0\nex.com 60 6 0", "ex.com 0x1\nex.com 60 6 1", "ex.com 1_0\nex.com 60 6 10",
		"ex.com 1\nex.com 60 6 01", "ex.com 1\nex.com 060 6 1", "ex.com 1\nex.com 60 06 1", "ex.com 1\nex.com 60 6 1 ", "ex.com 1\nex.com  60 6 1", "ex.com a\nex.com 60 6 0",
		"ex.com 1\nex.com 60 6 2", "ex.com 0\nex.com 60 6 0\nex.com 60 6 0", "ex.com 0\n. 60 6 0", "ex.com 0\nex.net 60 6 0", "ex.com. 0\nex.com. 60 6 0", "Ex.com 0\nex.com 60 6 0",
		"ex.com 0\na.ex.com 60 1 1.2.3.4\nex.com 60 6 0", "ex.com 0\nex.com 60 6 0\nex.com 60 1 1.2.3.4", "ex.com 0\nex.com 60 6 0\na.ex.com 60 1 1.2.3.10\na.ex.com 60 1 1.2.3.9",
		"ex.com 0\nex.com 60 6 0\nb.ex.com 60 1 1.2.3.4\na.ex.com 60 1 1.2.3.4", "ex.com 0\nex.com 60 6 0\na.ex.com 60 1 1.2.3.4\na.ex.com 60 1 1.2.3.4",
		"ex.com 0\nex.com 60 6 0\nex.net 60 1 1.2.3.4", "ex.com 0\nex.com 60 6 0\na.ex.com 60 1 1.2.3.4\na.ex.com 60 5 b", "ex.com 0\nex.com 60 6 0\na.ex.com 60 16 x\ny",
		"ex.com 1152921504606846977\nex.com 60 6 1", "ex.com 9223372036854775807\nex.com 60 6 4294967295", "ex.com 9223372036854775808\nex.com 60 6 0",
		"ex.com 18446744073709551616\nex.com 60 6 0", "ex.com -9223372036854775808\nex.com 60 6 0", "ex.com 4294967296\nex.com 60 6 4294967296",
		strings.Repeat("\n", 1<<20), strings.Repeat("ex.com 0\n", 1<<16), "ex.com " + strings.Repeat("0", 1<<20), strings.Repeat("a", 1<<20) + " 0\nex.com 60 6 0",
	} {
		wantNoZoneFrom(t, s)
	}
	if back, ok := impl.ReadZone("ex.com 4294967296\nex.com 60 6 0"); !ok || !alikeZones(back, zoneOf("ex.com", allSerials)) {
		t.Error(shown(back), ok)
	}
}

func TestTextsOfFullZones(t *testing.T) {
	s := wantZone(t, fullZone(40, 9))
	wantNoZoneFrom(t, s+"\n")
	wantNoZoneFrom(t, s+"\nz.ex.com 60 1 1.2.3.4")
	wantNoZoneFrom(t, s+"\nz.ex.com 60 1 1.2.3.4\nzz.ex.com 60 1 1.2.3.4")
	for i := range len(s) {
		if s[i] == '\n' {
			wantNoZoneFrom(t, s[:i]+s[i+1:])
			wantNoZoneFrom(t, s[:i]+"\n"+s[i:])
			wantNoZoneFrom(t, s[:i]+" "+s[i+1:])
		}
	}
}

func TestZonesComeBackFromTheirTexts(t *testing.T) {
	r := rand.New(rand.NewSource(61))
	texts := map[string]impl.Zone{}
	for range 400 {
		z := goodRandomZone(r)
		s := wantZone(t, z)
		if other, known := texts[s]; known && !alikeZones(z, other) {
			t.Errorf("%s and %s have one text", shown(z), shown(other))
		}
		texts[s] = z
	}
}
