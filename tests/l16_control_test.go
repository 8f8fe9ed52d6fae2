package tests

import (
	"fmt"
	"math/rand"
	"slices"
	"strings"
	"testing"

	"loop.example/g00300/impl"
)

// wantControlGood tells the control.
func wantControlGood(t *testing.T, c impl.Control) impl.Control {
	t.Helper()
	if !impl.GoodControl(c) {
		t.Errorf("GoodControl(%s) = false", shown(c))
	}
	return c
}

// wantControlBad also asks whoever is given a control.
func wantControlBad(t *testing.T, c impl.Control) {
	t.Helper()
	if impl.GoodControl(c) {
		t.Errorf("GoodControl(%s) = true", shown(c))
	}
	wantRefused(t, c, askedBy(0, 1), askedBy(3, 5), askedBy(3, 6), askedBy(99, 1000))
	for _, d := range append(slices.Clone(c.Last), doneFor(3, 5, 0, 0)) {
		wantRefused(t, c, askedBy(d.Client, d.No))
		wantNoAnswerTo(t, c, d.Client, d.No)
	}
}

func wantRefused(t *testing.T, c impl.Control, l ...impl.Asked) {
	t.Helper()
	for _, a := range l {
		if got, d, ok := impl.TakeAsked(c, a); !alikeControls(got, impl.Control{}) || d != (impl.Done{}) || ok {
			t.Errorf("TakeAsked(%s, %s) = %s, %v, %v", shown(c), shown(a), shown(got), d, ok)
		}
	}
}

// wantTakenAs tells the control then.
func wantTakenAs(t *testing.T, c impl.Control, a impl.Asked, d impl.Done, then impl.Control) impl.Control {
	t.Helper()
	got, told, ok := impl.TakeAsked(c, a)
	if !alikeControls(got, then) || told != d || !ok {
		t.Errorf("TakeAsked(%s, %s) = %s, %v, %v; want %s, %v", shown(c), shown(a), shown(got), told, ok, shown(then), d)
	}
	wantControlGood(t, got)
	if again, ok := impl.AnswerTo(got, a.Client, a.No); again != d || !ok {
		t.Errorf("AnswerTo(%s, %d, %d) = %v, %v; want %v", shown(got), a.Client, a.No, again, ok, d)
	}
	return got
}

// wantToldAgain asks for a control that stays as it is.
func wantToldAgain(t *testing.T, c impl.Control, a impl.Asked, d impl.Done) {
	t.Helper()
	wantTakenAs(t, c, a, d, c)
}

func wantNoAnswerTo(t *testing.T, c impl.Control, client, no int) {
	t.Helper()
	if d, ok := impl.AnswerTo(c, client, no); d != (impl.Done{}) || ok {
		t.Errorf("AnswerTo(%s, %d, %d) = %v, %v", shown(c), client, no, d, ok)
	}
}

// wantPlayedTo asks for all that is told, and for the control in the end.
func wantPlayedTo(t *testing.T, apex string, l []impl.Asked, then impl.Control, want ...impl.Done) {
	t.Helper()
	got, told, ok := impl.PlayAsked(apex, l)
	if !alikeControls(got, then) || !slices.Equal(told, want) || !ok {
		t.Errorf("PlayAsked(%q, %s) = %s, %v, %v; want %s, %v", apex, shown(l), shown(got), told, ok, shown(then), want)
	}
	wantControlGood(t, got)
}

func wantNotPlayedAt(t *testing.T, apex string, l ...impl.Asked) {
	t.Helper()
	if got, told, ok := impl.PlayAsked(apex, l); !alikeControls(got, impl.Control{}) || len(told) != 0 || ok {
		t.Errorf("PlayAsked(%.80q, %s) = %s, %v, %v", apex, shown(l), shown(got), told, ok)
	}
}

// wantAskedAs asks for the text, and for what is read of it.
func wantAskedAs(t *testing.T, a impl.Asked, text string) {
	t.Helper()
	if got, ok := impl.AskedText(a); got != text || !ok {
		t.Errorf("AskedText(%s) = %q, %v; want %q", shown(a), got, ok, text)
	}
	if got, ok := impl.ReadAsked(text); !alikeAsked(got, a) || !ok {
		t.Errorf("ReadAsked(%q) = %s, %v; want %s", text, shown(got), ok, shown(a))
	}
}

func wantNoAskedText(t *testing.T, l ...impl.Asked) {
	t.Helper()
	for _, a := range l {
		if got, ok := impl.AskedText(a); got != "" || ok {
			t.Errorf("AskedText(%s) = %q, %v", shown(a), got, ok)
		}
	}
}

func wantNotAskedBy(t *testing.T, l ...string) {
	t.Helper()
	for _, s := range l {
		if got, ok := impl.ReadAsked(s); !alikeAsked(got, impl.Asked{}) || ok {
			t.Errorf("ReadAsked(%.300q) = %s, %v", s, shown(got), ok)
		}
	}
}

// controlOf3 has three clients, with an address at the Counter 7.
func controlOf3() impl.Control {
	return controlWith(zoneOf("ex.com", 7, addressOf("a.ex.com", 1)), 12, doneFor(0, 1, 0, 7), doneFor(3, 5, 2, 6), doneFor(100, 1000, 4, 9))
}

// clientsTo are so many clients, each with its last.
func clientsTo(many int) []impl.Done {
	var l []impl.Done
	for i := range many {
		l = append(l, doneFor(10*i, 5, 0, 1))
	}
	return l
}

func TestControlConstants(t *testing.T) {
	if impl.MaxClients != mostClients || impl.MaxAsked != mostAsked {
		t.Error(impl.MaxClients, impl.MaxAsked)
	}
}

func TestNewControls(t *testing.T) {
	for _, apex := range append(goodNames(), badNames()...) {
		c, ok := impl.NewControl(apex)
		if !wantApex(apex) {
			if !alikeControls(c, impl.Control{}) || ok {
				t.Errorf("NewControl(%.80q) = %s, %v", apex, shown(c), ok)
			}
			wantNotPlayedAt(t, apex)
			wantNotPlayedAt(t, apex, askedBy(3, 1))
			continue
		}
		if !alikeControls(c, controlWith(zoneOf(apex, 0), 0)) || !ok {
			t.Errorf("NewControl(%q) = %s, %v", apex, shown(c), ok)
		}
		wantControlGood(t, c)
		wantPlayedTo(t, apex, nil, c)
		for _, client := range []int{0, 3, 100} {
			wantNoAnswerTo(t, c, client, 1)
		}
	}
}

func TestZonesOfControls(t *testing.T) {
	for _, z := range []impl.Zone{zoneOf("", 0), zoneOf("ex.com", 0), zoneOf("ex.com", mostCounter), zoneOf("a.b.c", allSerials, addressOf("a.b.c", 1)), fullZone(40, 7)} {
		wantControlGood(t, controlWith(z, 0))
		wantControlGood(t, controlWith(z, mostDone, controlOf3().Last...))
	}
	for _, z := range badZones() {
		wantControlBad(t, controlWith(z, 0))
		wantControlBad(t, controlWith(z, 12, controlOf3().Last...))
	}
	wantControlBad(t, impl.Control{})
}

func TestManyOfControls(t *testing.T) {
	c := controlOf3()
	for _, c.Many = range []int{0, 1, 2, 999999, 1000000} {
		wantControlGood(t, c)
	}
	for _, c.Many = range append(wildInts(), -2, 1000001, 1000002, 1<<40) {
		wantControlBad(t, c)
	}
}

func TestClientsOfControls(t *testing.T) {
	z := zoneOf("ex.com", 7)
	for many := range 9 {
		wantControlGood(t, controlWith(z, 3, clientsTo(many)...))
	}
	for _, many := range []int{9, 10, 11} {
		wantControlBad(t, controlWith(z, 3, clientsTo(many)...))
	}
	wantControlBad(t, controlWith(z, 3, make([]impl.Done, 1<<12)...))
	a, b, c := doneFor(3, 5, 0, 0), doneFor(4, 5, 0, 0), doneFor(9, 5, 0, 0)
	for _, l := range [][]impl.Done{{a}, {a, b}, {a, c}, {b, c}, {a, b, c}} {
		wantControlGood(t, controlWith(z, 3, l...))
	}
	for _, l := range [][]impl.Done{{b, a}, {a, c, b}, {b, a, c}, {c, b, a}, {b, c, a}, {a, a}, {a, b, b}, {a, a, b}, {a, b, a}, {a, doneFor(3, 6, 1, 1)}} {
		wantControlBad(t, controlWith(z, 3, l...))
	}
}

// Each number of what was done is put to its edges, in a row of one and in each place of a row of three.
func TestNumbersOfWhatWasDone(t *testing.T) {
	wild := wildInts()
	for _, one := range []struct {
		put       func(*impl.Done, int)
		good, bad []int
	}{
		{func(d *impl.Done, n int) { d.Client = n }, []int{0, 1, 3, 99, 100}, append(wild, 101, 102, 1000)},
		{func(d *impl.Done, n int) { d.No = n }, []int{1, 2, 999, 1000}, append(wild, 0, -3, 1001, 1002)},
		{func(d *impl.Done, n int) { d.Code = n }, []int{0, 1, 2, 3, 4}, append(wild, -2, 5, 6, 9)},
		{func(d *impl.Done, n int) { d.Serial = n }, []int{0, 1, 2147483648, 4294967294, 4294967295}, append(wild, -5, 4294967296, 4294967297)},
	} {
		try := func(n int) (alone impl.Control, among []impl.Control) {
			d := doneFor(3, 5, 0, 0)
			one.put(&d, n)
			for at := range controlOf3().Last {
				c := controlOf3()
				one.put(&c.Last[at], n)
				among = append(among, c)
			}
			return controlWith(zoneOf("ex.com", 7), 3, d), among
		}
		for _, n := range one.good {
			alone, among := try(n)
			wantControlGood(t, alone)
			for _, c := range among {
				if wantGoodControl(c) {
					wantControlGood(t, c)
				}
			}
		}
		for _, n := range one.bad {
			alone, among := try(n)
			wantControlBad(t, alone)
			for _, c := range among {
				wantControlBad(t, c)
			}
		}
	}
}

// Nothing of what is kept is held against the zone, nor against how many were done.
func TestWhatIsNotAskedOfControls(t *testing.T) {
	z := zoneOf("ex.com", 7)
	wantControlGood(t, controlWith(z, 0, clientsTo(8)...))
	wantControlGood(t, controlWith(z, 0, doneFor(1, 9, 0, 8), doneFor(2, 9, 3, 4294967295)))
	wantControlGood(t, controlWith(zoneOf("ex.com", 0), mostDone))
}

func TestAskedByAnotherClient(t *testing.T) {
	c := controlOf3()
	b := addressOf("b.ex.com", 2)
	then := zoneOf("ex.com", 8, addressOf("a.ex.com", 1), b)
	// A client comes to its place, wherever that is; a first No may be any.
	for client, at := range map[int]int{1: 1, 2: 1, 4: 2, 99: 2} {
		for _, no := range []int{1, 2, 999, 1000} {
			d := doneFor(client, no, 0, 8)
			wantTakenAs(t, c, askedBy(client, no, add(b)), d, controlWith(then, 13, slices.Insert(slices.Clone(c.Last), at, d)...))
		}
	}
	first, last := doneFor(0, 7, 0, 8), doneFor(100, 7, 0, 8)
	only := controlWith(c.Zone, 12, doneFor(3, 5, 2, 6))
	wantTakenAs(t, only, askedBy(0, 7, add(b)), first, controlWith(then, 13, first, only.Last[0]))
	wantTakenAs(t, only, askedBy(100, 7, add(b)), last, controlWith(then, 13, only.Last[0], last))
	none := controlWith(c.Zone, 12)
	wantTakenAs(t, none, askedBy(0, 7, add(b)), first, controlWith(then, 13, first))
}

func TestRoomForClients(t *testing.T) {
	z := zoneOf("ex.com", 7)
	seven, eight := controlWith(z, 3, clientsTo(7)...), controlWith(z, 3, clientsTo(8)...)
	d := doneFor(70, 5, 0, 8)
	wantTakenAs(t, seven, askedBy(70, 5), d, controlWith(zoneOf("ex.com", 8), 4, append(clientsTo(7), d)...))
	for _, client := range []int{1, 5, 69, 71, 100} {
		wantRefused(t, eight, askedBy(client, 1), askedBy(client, 5), askedBy(client, 1000), askedBy(client, 6, impl.Change{}))
		wantNoAnswerTo(t, eight, client, 5)
	}
	// Those who are known have their room.
	for i, last := range eight.Last {
		wantToldAgain(t, eight, askedBy(last.Client, 5), last)
		d, l := doneFor(last.Client, 6, 0, 8), clientsTo(8)
		l[i] = d
		wantTakenAs(t, eight, askedBy(last.Client, 6), d, controlWith(zoneOf("ex.com", 8), 4, l...))
	}
}

func TestAskedAgain(t *testing.T) {
	c := controlOf3()
	bad := impl.Change{Kind: 9}
	for _, last := range c.Last {
		// Whatever the changes are: they were done, or not, when they were asked first.
		for _, l := range [][]impl.Change{nil, {}, {add(addressOf("b.ex.com", 2))}, {del(addressOf("a.ex.com", 1))}, {bad}, addsOf(12), addsOf(13)} {
			wantToldAgain(t, c, askedBy(last.Client, last.No, l...), last)
		}
	}
	// A last that was told of another zone is told as it was.
	c.Zone = zoneOf("net", 44)
	for _, last := range c.Last {
		wantToldAgain(t, c, askedBy(last.Client, last.No), last)
	}
}

func TestNumbersBesideTheLast(t *testing.T) {
	c := controlOf3()
	for _, no := range []int{1, 2, 3, 4} {
		wantRefused(t, c, askedBy(3, no), askedBy(3, no, add(addressOf("b.ex.com", 2))), askedBy(3, no, impl.Change{}))
		wantNoAnswerTo(t, c, 3, no)
	}
	wantRefused(t, c, askedBy(100, 1), askedBy(100, 999))
	for _, no := range []int{6, 7, 20, 999, 1000} {
		d := doneFor(3, no, 0, 8)
		then := wantTakenAs(t, c, askedBy(3, no), d, controlWith(zoneOf("ex.com", 8, addressOf("a.ex.com", 1)), 13, c.Last[0], d, c.Last[2]))
		// What was the last one ahead of it is not known any more.
		wantRefused(t, then, askedBy(3, 5), askedBy(3, no-1))
		wantNoAnswerTo(t, then, 3, 5)
	}
}

func TestAskersThatAreNotAsSaid(t *testing.T) {
	c := controlOf3()
	change := add(addressOf("b.ex.com", 2))
	for _, client := range append(wildInts(), -2, 101, 102, 256) {
		for _, no := range []int{1, 5, 1000, 0, 1001} {
			wantRefused(t, c, askedBy(client, no), askedBy(client, no, change))
			wantNoAskedText(t, askedBy(client, no), askedBy(client, no, change))
			wantNoAnswerTo(t, c, client, no)
			wantPlayedTo(t, "ex.com", []impl.Asked{askedBy(client, no, change)}, controlWith(zoneOf("ex.com", 0), 0), impl.Done{})
		}
	}
	for _, no := range append(wildInts(), 0, -2, 1001, 1002, 1<<20) {
		for _, client := range []int{0, 3, 4, 100} {
			wantRefused(t, c, askedBy(client, no), askedBy(client, no, change))
			wantNoAskedText(t, askedBy(client, no), askedBy(client, no, change))
			wantNoAnswerTo(t, c, client, no)
			wantPlayedTo(t, "ex.com", []impl.Asked{askedBy(client, no, change)}, controlWith(zoneOf("ex.com", 0), 0), impl.Done{})
		}
	}
}

func TestTheLastOfMany(t *testing.T) {
	c := controlOf3()
	c.Many = 999999
	d := doneFor(3, 6, 0, 8)
	full := wantTakenAs(t, c, askedBy(3, 6), d, controlWith(zoneOf("ex.com", 8, addressOf("a.ex.com", 1)), 1000000, c.Last[0], d, c.Last[2]))
	wantRefused(t, full, askedBy(3, 7), askedBy(4, 1), askedBy(0, 2), askedBy(3, 1000, impl.Change{}), askedBy(3, 5))
	// What is told again is not counted.
	for _, last := range full.Last {
		wantToldAgain(t, full, askedBy(last.Client, last.No), last)
	}
	c.Many = 999998
	wantTakenAs(t, c, askedBy(4, 1, impl.Change{}), doneFor(4, 1, 1, 7), controlWith(c.Zone, 999999, c.Last[0], c.Last[1], doneFor(4, 1, 1, 7), c.Last[2]))
}

// What is not done is told by its code, counts, and is the last of its client all the same.
func TestBatchesOfEachCode(t *testing.T) {
	a, b := addressOf("a.ex.com", 1), addressOf("b.ex.com", 2)
	full := fullZone(40, 7)
	for _, one := range []struct {
		zone impl.Zone
		l    []impl.Change
		code int
	}{
		{controlOf3().Zone, []impl.Change{{}}, 1},
		{controlOf3().Zone, []impl.Change{add(b), {Kind: 9, Record: b}}, 1},
		{controlOf3().Zone, []impl.Change{add(soaOf("ex.com", 9))}, 1},
		{controlOf3().Zone, addsOf(13), 1},
		{controlOf3().Zone, slices.Repeat([]impl.Change{has(a)}, 1000), 1},
		{controlOf3().Zone, []impl.Change{has(b)}, 2},
		{controlOf3().Zone, []impl.Change{add(b), not(a)}, 2},
		{controlOf3().Zone, []impl.Change{add(addressOf("ex.net", 1))}, 3},
		{controlOf3().Zone, []impl.Change{add(withTtl(addressOf("a.ex.com", 2), 9))}, 3},
		{full, []impl.Change{add(addressOf("z.ex.com", 1))}, 4},
		{zoneOf("ex.com", mostCounter), nil, 4},
	} {
		c := controlOf3()
		c.Zone = one.zone
		serial := one.zone.Counter % allSerials
		d := doneFor(3, 6, one.code, serial)
		then := wantTakenAs(t, c, askedBy(3, 6, one.l...), d, controlWith(one.zone, 13, c.Last[0], d, c.Last[2]))
		wantToldAgain(t, then, askedBy(3, 6, one.l...), d)
		d = doneFor(50, 6, one.code, serial)
		wantTakenAs(t, c, askedBy(50, 6, one.l...), d, controlWith(one.zone, 13, c.Last[0], c.Last[1], d, c.Last[2]))
	}
}

func TestBatchesThatAreDone(t *testing.T) {
	c := controlOf3()
	a, b := addressOf("a.ex.com", 1), addressOf("b.ex.com", 2)
	d := doneFor(3, 6, 0, 8)
	for _, one := range []struct {
		l       []impl.Change
		records []impl.Record
	}{
		{nil, []impl.Record{a}}, {[]impl.Change{}, []impl.Record{a}}, {[]impl.Change{add(b)}, []impl.Record{a, b}}, {[]impl.Change{del(a)}, nil},
		{[]impl.Change{has(a), not(b), del(a), add(b)}, []impl.Record{b}}, {[]impl.Change{add(a)}, []impl.Record{a}},
		{addsOf(12), append(slices.Clone(recordsOfAdds(12)), a)},
	} {
		wantTakenAs(t, c, askedBy(3, 6, one.l...), d, controlWith(zoneOf("ex.com", 8, one.records...), 13, c.Last[0], d, c.Last[2]))
	}
}

func recordsOfAdds(many int) []impl.Record {
	var l []impl.Record
	for _, c := range addsOf(many) {
		l = append(l, c.Record)
	}
	return l
}

// The Serial goes round, which the Counter does not.
func TestSerialsOfWhatIsDone(t *testing.T) {
	for counter, serial := range map[int]int{0: 1, 1: 2, allSerials - 2: allSerials - 1, allSerials - 1: 0, allSerials: 1, 5*allSerials - 1: 0, mostCounter - 1: 0} {
		d := doneFor(3, 6, 0, serial)
		wantTakenAs(t, controlWith(zoneOf("ex.com", counter), 0), askedBy(3, 6), d, controlWith(zoneOf("ex.com", counter+1), 1, d))
		d = doneFor(3, 6, 1, counter%allSerials)
		wantTakenAs(t, controlWith(zoneOf("ex.com", counter), 0), askedBy(3, 6, impl.Change{}), d, controlWith(zoneOf("ex.com", counter), 1, d))
	}
}

func TestPlayedByHand(t *testing.T) {
	a, b := addressOf("a.ex.com", 1), addressOf("b.ex.com", 2)
	row := []impl.Asked{
		askedBy(3, 1, add(a)), askedBy(3, 1, add(a)), askedBy(3, 2, impl.Change{Kind: 9}), askedBy(3, 1, add(a)), askedBy(0, 9, not(a)), askedBy(0, 9, not(b)),
		askedBy(101, 1, add(b)), askedBy(4, 0, add(b)), askedBy(100, 1000, has(a), add(b)), askedBy(3, 2), askedBy(3, 3, del(a)),
	}
	first, bad, need, last := doneFor(3, 1, 0, 1), doneFor(3, 2, 1, 1), doneFor(0, 9, 2, 1), doneFor(100, 1000, 0, 2)
	then := controlWith(zoneOf("ex.com", 3, b), 5, need, doneFor(3, 3, 0, 3), last)
	wantPlayedTo(t, "ex.com", row, then, first, first, bad, impl.Done{}, need, need, impl.Done{}, impl.Done{}, last, bad, doneFor(3, 3, 0, 3))
	wantPlayedTo(t, "ex.com", row[:3], controlWith(zoneOf("ex.com", 1, a), 2, bad), first, first, bad)
	wantPlayedTo(t, "ex.com", row[:4], controlWith(zoneOf("ex.com", 1, a), 2, bad), first, first, bad, impl.Done{})
	wantPlayedTo(t, "", row[:1], controlWith(zoneOf("", 1, a), 1, first), first)
	wantPlayedTo(t, "com", row[:0], controlWith(zoneOf("com", 0), 0))
	wantPlayedTo(t, "net", row[:1], controlWith(zoneOf("net", 0), 1, doneFor(3, 1, 3, 0)), doneFor(3, 1, 3, 0))
}

func TestHowManyAreAsked(t *testing.T) {
	var row []impl.Asked
	var told []impl.Done
	for no := 1; no <= 40; no++ {
		row = append(row, askedBy(3, no))
		told = append(told, doneFor(3, no, 0, no))
		wantPlayedTo(t, "ex.com", row, controlWith(zoneOf("ex.com", no), no, told[no-1]), told...)
	}
	wantNotPlayedAt(t, "ex.com", append(row, askedBy(3, 41))...)
	wantNotPlayedAt(t, "ex.com", append(row, row[39])...)
	wantNotPlayedAt(t, "ex.com", append(row, impl.Asked{})...)
	wantNotPlayedAt(t, "ex.com", make([]impl.Asked, 1<<16)...)
	// Those that are refused count as well.
	wantPlayedTo(t, "ex.com", make([]impl.Asked, 40), controlWith(zoneOf("ex.com", 0), 0), make([]impl.Done, 40)...)
	wantNotPlayedAt(t, "ex.com", make([]impl.Asked, 41)...)
}

// The ninth client has no room, however often it asks; the eight go on.
func TestMoreClientsThanThereIsRoomFor(t *testing.T) {
	var row []impl.Asked
	var told []impl.Done
	for client := range 11 {
		row = append(row, askedBy(client, 1))
		d := doneFor(client, 1, 0, client+1)
		if client >= 8 {
			d = impl.Done{}
		}
		told = append(told, d)
	}
	row = append(row, askedBy(7, 2), askedBy(8, 2), askedBy(0, 1))
	last := doneFor(7, 2, 0, 9)
	wantPlayedTo(t, "ex.com", row, controlWith(zoneOf("ex.com", 9), 9, append(slices.Clone(told[:7]), last)...), append(told, last, impl.Done{}, told[0])...)
}

func TestAnswerTo(t *testing.T) {
	c := controlOf3()
	for _, last := range c.Last {
		if d, ok := impl.AnswerTo(c, last.Client, last.No); d != last || !ok {
			t.Errorf("AnswerTo(%s, %d, %d) = %v, %v", shown(c), last.Client, last.No, d, ok)
		}
		for _, no := range append(wildInts(), 0, last.No-1, last.No+1, 4, 6, 500) {
			wantNoAnswerTo(t, c, last.Client, no)
		}
	}
	for _, client := range append(wildInts(), 1, 2, 4, 99, 101) {
		for _, no := range append(wildInts(), 0, 1, 5, 1000) {
			wantNoAnswerTo(t, c, client, no)
		}
	}
	// No one is told by another one's No.
	wantNoAnswerTo(t, c, 0, 5)
	wantNoAnswerTo(t, c, 3, 1)
	wantNoAnswerTo(t, c, 3, 1000)
}

func TestTextsOfAsked(t *testing.T) {
	a := addressOf("a.ex.com", 1)
	wantAskedAs(t, askedBy(0, 1), "0 1")
	wantAskedAs(t, askedBy(100, 1000), "100 1000")
	wantAskedAs(t, askedBy(3, 20, add(a)), "3 20\n1 a.ex.com 60 1 1.2.3.1")
	wantAskedAs(t, askedBy(3, 20, add(a), add(a), del(a)), "3 20\n1 a.ex.com 60 1 1.2.3.1\n1 a.ex.com 60 1 1.2.3.1\n2 a.ex.com 60 1 1.2.3.1")
	wantAskedAs(t, askedBy(3, 20, has(a), not(noteOf("", "")), del(noteOf("*", " x  "))), "3 20\n3 a.ex.com 60 1 1.2.3.1\n4 . 60 16 \n2 * 60 16  x  ")
	for kind := 1; kind <= 4; kind++ {
		for _, r := range oneOfEachType("x") {
			text, _ := wantRecordText(r)
			wantAskedAs(t, askedBy(7, 9, impl.Change{Kind: kind, Record: r}), fmt.Sprintf("7 9\n%d %s", kind, text))
		}
	}
	text := "3 20"
	for many := range 13 {
		if many > 0 {
			text += fmt.Sprintf("\n1 y.ex.com 60 1 1.2.3.%d", many-1)
		}
		wantAskedAs(t, askedBy(3, 20, addsOf(many)...), text)
	}
	wantNotAskedBy(t, text+"\n1 y.ex.com 60 1 1.2.3.12", text+"\n", text+"\n\n", text+"\n"+text, text+strings.Repeat("\n1 y.ex.com 60 1 1.2.3.12", 1<<12))
	wantNoAskedText(t, askedBy(3, 20, addsOf(13)...), askedBy(3, 20, addsOf(14)...), askedBy(3, 20, slices.Repeat(addsOf(1), 1<<12)...))
}

func TestAskedWithChangesThatAreNotAsSaid(t *testing.T) {
	a := addressOf("a.ex.com", 1)
	var bad []impl.Change
	for _, kind := range append(wildInts(), 0, 5, 6, 9, 256) {
		bad = append(bad, impl.Change{Kind: kind, Record: a})
	}
	for kind := 1; kind <= 4; kind++ {
		for _, r := range []impl.Record{{}, soaOf("ex.com", 7), withTtl(a, -1), withTtl(a, 100001), noteOf("A.ex.com", ""), noteOf("a.ex.com", "\n"), noteOf("a.ex.com", strings.Repeat("x", 31)), hostOf("a.ex.com", 5, "*.x"), {Name: "a", Type: 3}} {
			bad = append(bad, impl.Change{Kind: kind, Record: r})
		}
	}
	for _, c := range bad {
		wantNoAskedText(t, askedBy(3, 20, c), askedBy(3, 20, add(a), c), askedBy(3, 20, c, add(a)), askedBy(3, 20, append(addsOf(11), c)...))
		text, _ := wantRecordText(c.Record)
		if c.Record.Type == 6 || c.Record == a {
			wantNotAskedBy(t, fmt.Sprintf("3 20\n%d %s", c.Kind, text))
		}
	}
}

func TestTextsThatNothingHas(t *testing.T) {
	wantNotAskedBy(t, "", " ", "\n", "3", "3 ", " 20", "3  20", " 3 20", "3 20 ", "3\t20", "3,20", "3 20 1", "3 x", "x 20", "a b", "3\n20", "3 20\n", "3 20\n\n", "\n3 20", "3 20\r", "3 20\x00")
	for _, client := range []string{"", "-1", "+3", "-0", "03", "00", "101", "102", "999", "3.0", "0x3", "3_0", "18446744073709551619", "-9223372036854775808", "9223372036854775808", "\xff", "٣"} {
		wantNotAskedBy(t, client+" 20", client+" 20\n1 a.ex.com 60 1 1.2.3.1")
	}
	for _, no := range []string{"", "0", "-1", "+20", "-0", "020", "00", "1001", "1002", "9999", "20.0", "1e2", "2_0", "18446744073709551636", "-9223372036854775808", "9223372036854775807", "\xff", "٣"} {
		wantNotAskedBy(t, "3 "+no, "3 "+no+"\n1 a.ex.com 60 1 1.2.3.1")
	}
	const head, record = "3 20\n", "a.ex.com 60 1 1.2.3.1"
	wantAskedAs(t, askedBy(3, 20, add(addressOf("a.ex.com", 1))), head+"1 "+record)
	for _, kind := range []string{"", "0", "5", "6", "9", "-1", "+1", "01", "10", "1.0", "x", "18446744073709551617", "\xff"} {
		wantNotAskedBy(t, head+kind+" "+record)
	}
	for _, line := range []string{"", " ", "1", "1 ", record, " " + record, "1" + record, " 1 " + record, "1  " + record, "1\t" + record, "1 " + record + " ", "1 " + record + "\r", "1 A.ex.com 60 1 1.2.3.1", "1 a.ex.com 60 1 1.2.3", "1 a.ex.com 060 1 1.2.3.1", "1 a.ex.com 60 3 x", "1 a.ex.com  60 1 1.2.3.1", "1 a.ex.com 60 1", "1 ex.com 60 6 7", "1  60 16 x"} {
		wantNotAskedBy(t, head+line, head+"1 "+record+"\n"+line, head+line+"\n1 "+record)
	}
	wantNotAskedBy(t, head+"1 "+record+"\n", head+"1 "+record+"\n\n", head+"\n1 "+record, "\n"+head+"1 "+record, head+"1 "+record+"\n\n1 "+record, "3 20\r\n1 "+record, "3 20 1 "+record)
}

// Promise 16, of each one that is asked of a control: asked again at once it is told as it was, and nothing is done.
func TestWhatIsAskedAgainIsToldAsItWas(t *testing.T) {
	r := rand.New(rand.NewSource(161))
	taken, codes := 0, map[int]int{}
	for range 500 {
		c := randomControl(r)
		for range 8 {
			a := randomAsked(r, c)
			then, d, ok := impl.TakeAsked(c, a)
			if !ok {
				continue
			}
			taken++
			codes[d.Code]++
			other := a
			other.Changes = randomBatch(r, then.Zone, 12)
			for _, again := range []impl.Asked{a, other, a} {
				wantToldAgain(t, then, again, d)
			}
			c = then
		}
	}
	if taken < 800 || min(codes[0], codes[1], codes[2], codes[3]) < 20 {
		t.Error("the asked are all of one kind", taken, codes)
	}
}

// Promise 16, of rows: with each one asked twice, and with any that comes again until its client asks for more.
func TestRowsAskedTwice(t *testing.T) {
	r := rand.New(rand.NewSource(162))
	for range 300 {
		apex := oneOf(r, []string{"ex.com", "", "com"})
		row := randomAskedRow(r, apex, r.Intn(21))
		c, told, ok := impl.PlayAsked(apex, row)
		var twice, late []impl.Asked
		var toldTwice, toldLate []impl.Done
		last := map[int]int{}
		for i, a := range row {
			twice, toldTwice = append(twice, a, a), append(toldTwice, told[i], told[i])
			late, toldLate = append(late, a), append(toldLate, told[i])
			if told[i] != (impl.Done{}) {
				last[a.Client] = i
			}
			if at, known := last[r.Intn(20)]; known {
				late, toldLate = append(late, row[at]), append(toldLate, told[at])
			}
		}
		if !ok {
			t.Fatalf("PlayAsked(%q, %s) is refused", apex, shown(row))
		}
		wantPlayedTo(t, apex, twice, c, toldTwice...)
		wantPlayedTo(t, apex, late, c, toldLate...)
	}
}

// What is done is done once: as often as Many tells, and as the zone's Counter tells of those that were done.
func TestEachIsDoneOnce(t *testing.T) {
	r := rand.New(rand.NewSource(163))
	for range 300 {
		row := randomAskedRow(r, "ex.com", mostAsked)
		c, told, _ := impl.PlayAsked("ex.com", row)
		seen, done := map[[2]int]impl.Done{}, 0
		for i, d := range told {
			if d == (impl.Done{}) {
				continue
			}
			key := [2]int{row[i].Client, row[i].No}
			if before, known := seen[key]; known && before != d {
				t.Errorf("%v is told, then %v", before, d)
			} else if !known && d.Code == impl.BatchOk {
				done++
			}
			seen[key] = d
		}
		if c.Many != len(seen) || c.Zone.Counter != done {
			t.Errorf("of %v: %d, %d; want %d, %d", told, c.Many, c.Zone.Counter, len(seen), done)
		}
	}
}

// Playing is nothing but taking one behind the other.
func TestPlayingIsTaking(t *testing.T) {
	r := rand.New(rand.NewSource(164))
	for range 300 {
		row := randomAskedRow(r, "ex.com", r.Intn(mostAsked+1))
		c, _ := impl.NewControl("ex.com")
		var want []impl.Done
		for _, a := range row {
			then, d, ok := impl.TakeAsked(c, a)
			if ok {
				c = then
			}
			want = append(want, d)
		}
		wantPlayedTo(t, "ex.com", row, c, want...)
	}
}

func TestAskedComeBackFromTheirTexts(t *testing.T) {
	r := rand.New(rand.NewSource(165))
	for range 2000 {
		a := askedBy(r.Intn(101), 1+r.Intn(1000), randomBatch(r, goodRandomZone(r), 12)...)
		text, _ := wantAskedText(a)
		wantAskedAs(t, a, text)
	}
}
