package tests

import (
	"math/rand"
	"slices"
	"strings"
	"testing"

	"loop.example/g00300/impl"
)

// checkControl asks for what is told of a control alone, and of each client that has a last in it. It tells whether it is good.
func checkControl(t *testing.T, c impl.Control) bool {
	t.Helper()
	good := wantGoodControl(c)
	if impl.GoodControl(c) != good {
		t.Errorf("GoodControl(%s) = %v", shown(c), !good)
	}
	for _, d := range c.Last[:min(len(c.Last), 12)] {
		for _, no := range []int{d.No - 1, d.No, d.No + 1} {
			checkAnswerTo(t, c, d.Client, no)
		}
	}
	return good
}

func checkAnswerTo(t *testing.T, c impl.Control, client, no int) {
	t.Helper()
	want, ok := wantAnswerTo(c, client, no)
	if got, told := impl.AnswerTo(c, client, no); got != want || told != ok {
		t.Errorf("AnswerTo(%s, %d, %d) = %v, %v; want %v, %v", shown(c), client, no, got, told, want, ok)
	}
}

// checkTake tells whether it is taken.
func checkTake(t *testing.T, c impl.Control, a impl.Asked) bool {
	t.Helper()
	want, d, ok := wantTakeAsked(c, a)
	got, done, told := impl.TakeAsked(c, a)
	if !alikeControls(got, want) || done != d || told != ok {
		t.Errorf("TakeAsked(%s, %s) = %s, %v, %v; want %s, %v, %v", shown(c), shown(a), shown(got), done, told, shown(want), d, ok)
	}
	if ok && !impl.GoodControl(got) {
		t.Errorf("TakeAsked(%s, %s) = %s, which is not good", shown(c), shown(a), shown(got))
	}
	return ok
}

// checkPlayAsked tells whether the row is taken.
func checkPlayAsked(t *testing.T, apex string, l []impl.Asked) bool {
	t.Helper()
	want, ok := wantNewControl(apex)
	if got, told := impl.NewControl(apex); !alikeControls(got, want) || told != ok {
		t.Errorf("NewControl(%.80q) = %s, %v; want %s, %v", apex, shown(got), told, shown(want), ok)
	}
	want, dones, ok := wantPlayAsked(apex, l)
	got, done, told := impl.PlayAsked(apex, l)
	if !alikeControls(got, want) || !slices.Equal(done, dones) || told != ok {
		t.Errorf("PlayAsked(%.80q, %s) = %s, %v, %v; want %s, %v, %v", apex, shown(l), shown(got), done, told, shown(want), dones, ok)
	}
	return ok
}

// checkAskedText tells whether there is one.
func checkAskedText(t *testing.T, a impl.Asked) bool {
	t.Helper()
	want, ok := wantAskedText(a)
	if got, told := impl.AskedText(a); got != want || told != ok {
		t.Errorf("AskedText(%s) = %q, %v; want %q, %v", shown(a), got, told, want, ok)
	}
	return ok
}

// checkAskedFrom tells whether something has this text.
func checkAskedFrom(t *testing.T, s string) bool {
	t.Helper()
	want, ok := wantAskedFrom(s)
	if got, told := impl.ReadAsked(s); !alikeAsked(got, want) || told != ok {
		t.Errorf("ReadAsked(%.300q) = %s, %v; want %s, %v", s, shown(got), told, shown(want), ok)
	}
	return ok
}

func TestControlsAnswerAtAnyArguments(t *testing.T) {
	r := rand.New(rand.NewSource(166))
	good, taken := map[bool]int{}, map[bool]int{}
	for range 1000 {
		c := randomControl(r)
		other := damagedControl(r, c)
		for _, tried := range []impl.Control{c, other, damagedControl(r, other)} {
			good[checkControl(t, tried)]++
			for range 4 {
				taken[checkTake(t, tried, randomAsked(r, tried))]++
			}
			checkAnswerTo(t, tried, randomInt(r), randomInt(r))
			checkAnswerTo(t, tried, r.Intn(20), r.Intn(8))
		}
		if t.Failed() {
			return
		}
	}
	if min(good[true], good[false], taken[true], taken[false]) < 500 {
		t.Error("the controls are all of one kind", good, taken)
	}
}

func TestRowsOfAskedAnswerAtAnyArguments(t *testing.T) {
	r := rand.New(rand.NewSource(167))
	played := map[bool]int{}
	for range 600 {
		apex := oneOf(r, []string{"ex.com", "", "a.b.c", randomText(r)})
		many := oneOf(r, []int{0, 1, 5, r.Intn(mostAsked), mostAsked - 1, mostAsked, mostAsked, mostAsked + 1})
		played[checkPlayAsked(t, apex, randomAskedRow(r, apex, many))]++
	}
	if min(played[true], played[false]) < 100 {
		t.Error("the rows are all of one kind", played)
	}
}

func TestTextsOfAskedAnswerAtAnyArguments(t *testing.T) {
	r := rand.New(rand.NewSource(168))
	told, read := map[bool]int{}, map[bool]int{}
	for range 2000 {
		c := randomControl(r)
		a := randomAsked(r, c)
		told[checkAskedText(t, a)]++
		a.Changes = damagedBatch(r, a.Changes)
		told[checkAskedText(t, a)]++
		text, _ := wantAskedText(askedBy(r.Intn(101), 1+r.Intn(1000), randomBatch(r, c.Zone, 12)...))
		for _, s := range []string{text, damaged(r, text), damaged(r, damaged(r, text)), damagedLines(r, text), damagedLines(r, damaged(r, text)), text + "\n" + text} {
			read[checkAskedFrom(t, s)]++
		}
	}
	if min(told[true], told[false], read[true], read[false]) < 500 {
		t.Error("the texts are all of one kind", told, read)
	}
}

// All rows of at most four of a few that are in each other's way: two clients, numbers that rise or not, changes that are done or not.
func TestAllShortRowsOfAsked(t *testing.T) {
	a := addressOf("a.ex.com", 1)
	few := []impl.Asked{
		askedBy(0, 1, add(a)), askedBy(0, 2, not(a), add(a)), askedBy(0, 3), askedBy(9, 1, del(a)), askedBy(9, 2, impl.Change{}), askedBy(100, 1000, add(addressOf("ex.net", 1))), askedBy(101, 1, add(a)), askedBy(0, 0, add(a)),
	}
	for _, numbers := range smallLists(4, 0, len(few)-1) {
		var l []impl.Asked
		for _, n := range numbers {
			l = append(l, few[n])
		}
		checkPlayAsked(t, "ex.com", l)
		if t.Failed() {
			return
		}
	}
}

// All controls of at most two clients, with numbers at their bounds and just beyond.
func TestAllSmallControls(t *testing.T) {
	z := zoneOf("ex.com", 7)
	var one []impl.Done
	for _, client := range []int{-1, 0, 1, 100, 101} {
		for _, no := range []int{0, 1, 2, 1000, 1001} {
			for _, code := range []int{-1, 0, 4, 5} {
				one = append(one, doneFor(client, no, code, 7))
			}
			one = append(one, doneFor(client, no, 1, -1), doneFor(client, no, 1, allSerials-1), doneFor(client, no, 1, allSerials))
		}
	}
	good := 0
	try := func(c impl.Control) {
		if checkControl(t, c) {
			good++
		}
		for _, client := range []int{0, 1, 50} {
			for no := range 3 {
				checkTake(t, c, askedBy(client, no))
			}
		}
	}
	for _, many := range []int{-1, 0, 1, 999999, 1000000, 1000001} {
		try(controlWith(z, many))
		for _, d := range one {
			try(controlWith(z, many, d))
		}
	}
	for _, d := range one {
		for _, other := range one {
			try(controlWith(z, 2, d, other))
		}
		if t.Failed() {
			return
		}
	}
	if good < 100 {
		t.Error("few controls are good", good)
	}
}

// All texts of few bytes, alone and as what stands behind a head.
func TestSmallTextsOfAsked(t *testing.T) {
	read := 0
	for _, s := range textsOver("01 \na.", 5) {
		if checkAskedFrom(t, s) {
			read++
		}
		checkAskedFrom(t, "0 1"+s)
		checkAskedFrom(t, "0 1\n1 a 0 16 "+s)
		checkAskedFrom(t, "0 1\n"+s+" 0 16 ")
		checkAskedFrom(t, s+" 0 16 x")
	}
	for _, s := range textsOver("0129", 4) {
		checkAskedFrom(t, s+" 1")
		checkAskedFrom(t, "0 "+s)
		checkAskedFrom(t, "0 1\n"+s+" a 0 16 x")
	}
	if read < 10 {
		t.Error("few texts are read", read)
	}
}

func TestControlsAnswerAtWildArguments(t *testing.T) {
	edges := append(wildInts(), 0, 1, 4, 5, 8, 9, 40, 41, 100, 101, 1000, 1001, 1000000, 1000001, allSerials-1, allSerials)
	long := strings.Repeat("a.", 1<<20)
	z := zoneOf("ex.com", 7, addressOf("a.ex.com", 1))
	for _, a := range edges {
		for _, b := range edges {
			for _, c := range []impl.Control{
				controlWith(z, a), controlWith(z, 3, doneFor(a, b, 0, 7)), controlWith(z, 3, doneFor(3, 5, a, b)), controlWith(z, 3, doneFor(3, a, 0, b)),
				controlWith(z, a, doneFor(b, 5, 0, 7)), controlWith(z, 3, doneFor(a, 5, 0, 7), doneFor(b, 5, 0, 7)), {Zone: impl.Zone{Apex: "ex.com", Counter: a}, Many: b}, controlOf3(),
			} {
				checkControl(t, c)
				checkTake(t, c, askedBy(a, b))
				checkTake(t, c, askedBy(3, b, impl.Change{Kind: a}))
				checkAnswerTo(t, c, a, b)
			}
			checkAskedText(t, askedBy(a, b))
			checkAskedText(t, askedBy(a, b, add(addressOf("a", 1))))
			checkPlayAsked(t, "ex.com", []impl.Asked{askedBy(3, 5), askedBy(a, b), askedBy(b, a), askedBy(3, 6)})
		}
		for _, s := range []string{"", ".", "*", "\n", "\x00", "\xff", " ", "3 20", long} {
			checkAskedText(t, askedBy(3, 20, impl.Change{Kind: a, Record: impl.Record{Name: s, Type: 16, Ttl: a, Data: s}}))
			checkTake(t, controlOf3(), askedBy(3, 20, impl.Change{Kind: 1, Record: impl.Record{Name: s, Type: a, Data: s}}))
			checkPlayAsked(t, s, []impl.Asked{askedBy(a, 1), {}})
		}
	}
	for _, s := range []string{long, strings.Repeat("3 20\n", 1<<16), "3 20" + strings.Repeat("\n", 1<<20), "3 20\n1 " + long, "3 20\n" + long + " 60 1 1", "3 " + strings.Repeat("2", 1<<20), strings.Repeat("0", 1<<20) + " 1", strings.Repeat(" ", 1<<20), strings.Repeat("\x00\n", 1<<10)} {
		checkAskedFrom(t, s)
	}
	many := make([]impl.Change, 1<<16)
	checkTake(t, controlOf3(), askedBy(3, 20, many...))
	checkAskedText(t, askedBy(3, 20, many...))
	checkControl(t, controlWith(z, 3, make([]impl.Done, 1<<16)...))
	checkPlayAsked(t, "ex.com", make([]impl.Asked, 1<<16))
}

// withSpareControl puts records and clients behind a control's, in their memory.
func withSpareControl(c impl.Control) impl.Control {
	c.Zone.Records = withSpareRecords(c.Zone.Records)
	c.Last = append(slices.Clone(c.Last), doneFor(100, 7, 0, 7), doneFor(-1, -1, -1, -1), doneFor(3, 5, 0, 7))[:len(c.Last)]
	return c
}

// What lies behind the lists of a control, or of what is asked, would be seen: it does not count, and stays.
func TestNoControlIsWrittenInto(t *testing.T) {
	r := rand.New(rand.NewSource(169))
	for range 400 {
		c := randomControl(r)
		for _, tried := range []impl.Control{c, damagedControl(r, c), controlWith(c.Zone, 3), {}} {
			a := randomAsked(r, tried)
			tried, a.Changes = withSpareControl(tried), withSpareChanges(a.Changes)
			records, last, changes := tried.Zone.Records[:cap(tried.Zone.Records)], tried.Last[:cap(tried.Last)], a.Changes[:cap(a.Changes)]
			recordsBefore, lastBefore, changesBefore := slices.Clone(records), slices.Clone(last), slices.Clone(changes)
			checkControl(t, tried)
			checkTake(t, tried, a)
			checkAskedText(t, a)
			checkAnswerTo(t, tried, a.Client, a.No)
			checkAnswerTo(t, tried, 100, 7)
			checkPlayAsked(t, "ex.com", []impl.Asked{a, a})
			if !slices.Equal(records, recordsBefore) || !slices.Equal(last, lastBefore) || !slices.Equal(changes, changesBefore) {
				t.Errorf("%s or %s was written into", shown(tried), shown(a))
			}
		}
	}
}

func TestNoRowOfAskedIsWrittenInto(t *testing.T) {
	r := rand.New(rand.NewSource(170))
	for range 200 {
		row := randomAskedRow(r, "ex.com", mostAsked+3)
		var before []impl.Asked
		for _, a := range row {
			before = append(before, freshAsked(a))
		}
		for _, many := range []int{0, 1, r.Intn(mostAsked), mostAsked, mostAsked + 1} {
			checkPlayAsked(t, "ex.com", row[:many])
		}
		if !slices.EqualFunc(row, before, alikeAsked) {
			t.Errorf("%s was written into", shown(before))
		}
	}
}

// wantControlApart: no text of a control lies in what was given, and nothing lies behind its lists.
func wantControlApart(t *testing.T, c impl.Control, given ...string) {
	t.Helper()
	texts := textsOfZone(c.Zone)
	wantApart(t, texts, given...)
	for i, text := range texts {
		wantApart(t, []string{text}, texts[i+1:]...)
	}
	wantZerosBehind(t, c.Zone.Records)
	wantZerosBehind(t, c.Last)
}

func writeOverControl(c impl.Control) {
	writeOver(c.Zone.Records, impl.Record{Name: "written"})
	writeOver(c.Last, doneFor(-7, -7, -7, -7))
}

// Each answer is written over up to its end in memory: neither what was given nor another answer may change by that.
func TestControlAnswersShareNoMemory(t *testing.T) {
	r := rand.New(rand.NewSource(171))
	taken := map[int]int{}
	for range 400 {
		c := freshControl(randomControl(r))
		a := freshAsked(randomAsked(r, c))
		if len(c.Last) > 0 && r.Intn(4) == 0 {
			last := oneOf(r, c.Last)
			a.Client, a.No = last.Client, last.No
		}
		before, askedBefore := freshControl(c), freshAsked(a)
		told, d, ok := impl.TakeAsked(c, a)
		again, _, _ := impl.TakeAsked(c, a)
		if !ok {
			continue
		}
		taken[told.Many-c.Many]++
		wantControlApart(t, told, append(textsOfZone(c.Zone), textsOfBatch(a.Changes)...)...)
		kept := freshControl(told)
		writeOverControl(told)
		if !alikeControls(again, kept) || !alikeControls(c, before) || !alikeAsked(a, askedBefore) {
			t.Errorf("an answer (%v) shares memory with one told ahead, or with %s, %s", d, shown(before), shown(askedBefore))
		}
	}
	if min(taken[0], taken[1]) < 50 {
		t.Error("the asked are all of one kind", taken)
	}
}

func TestPlayedAskedShareNoMemory(t *testing.T) {
	r := rand.New(rand.NewSource(172))
	for range 150 {
		apex := strings.Clone("ex.com")
		row, given := randomAskedRow(r, apex, mostAsked), []string{apex}
		for i, a := range row {
			row[i] = freshAsked(a)
			given = append(given, textsOfBatch(row[i].Changes)...)
		}
		told, done, _ := impl.PlayAsked(apex, row)
		again, doneAgain, _ := impl.PlayAsked(apex, row)
		wantControlApart(t, told, given...)
		wantZerosBehind(t, done)
		kept, doneKept := freshControl(told), slices.Clone(done)
		writeOverControl(told)
		if !slices.Equal(done, doneKept) {
			t.Errorf("two lists of one answer share memory: %v", doneKept)
		}
		writeOver(done, impl.Done{Client: -7})
		if !alikeControls(again, kept) || !slices.Equal(doneAgain, doneKept) {
			t.Errorf("%s and %v share memory with what is told again", shown(kept), doneKept)
		}
		checkPlayAsked(t, apex, row)
		fresh, _ := impl.NewControl(apex)
		wantControlApart(t, fresh, apex)
		writeOverControl(fresh)
		if another, _ := impl.NewControl(apex); !alikeControls(another, controlWith(zoneOf("ex.com", 0), 0)) {
			t.Errorf("new controls share memory: %s", shown(another))
		}
	}
}

func TestTextsOfAskedShareNoMemory(t *testing.T) {
	r := rand.New(rand.NewSource(173))
	for range 300 {
		a := freshAsked(askedBy(r.Intn(101), 1+r.Intn(1000), randomBatch(r, goodRandomZone(r), 12)...))
		text, _ := impl.AskedText(a)
		wantApart(t, []string{text}, textsOfBatch(a.Changes)...)
		told, _ := impl.ReadAsked(text)
		again, _ := impl.ReadAsked(text)
		texts := textsOfBatch(told.Changes)
		wantApart(t, texts, append(textsOfBatch(again.Changes), text)...)
		wantZerosBehind(t, told.Changes)
		for i, one := range texts {
			wantApart(t, []string{one}, texts[i+1:]...)
		}
		writeOver(told.Changes, impl.Change{Kind: 7})
		if !alikeAsked(again, a) {
			t.Errorf("what is read of %q twice shares memory", text)
		}
	}
}

// A control and an asked whose texts lie in one memory are told in memory apart from it.
func TestAControlOfOneMemory(t *testing.T) {
	whole := strings.Clone("a.ex.com")
	record := impl.Record{Name: whole, Type: 5, Ttl: 60, Data: whole}
	z := zoneOf("ex.com", 7, record)
	z.Apex, z.Records[0].Name = whole[2:], whole[2:]
	c := controlWith(z, 3, doneFor(3, 5, 0, 7))
	for _, a := range []impl.Asked{askedBy(3, 5), askedBy(3, 6), askedBy(3, 6, add(record), del(record), add(record)), askedBy(3, 6, impl.Change{}), askedBy(4, 1, not(record))} {
		told, _, ok := impl.TakeAsked(c, a)
		if !ok {
			t.Errorf("TakeAsked(%s, %s) is refused", shown(c), shown(a))
		}
		wantControlApart(t, told, whole)
	}
	told, _, _ := impl.PlayAsked(whole[2:], []impl.Asked{askedBy(3, 1, add(record)), askedBy(3, 1, add(record))})
	wantControlApart(t, told, whole)
	for _, a := range []impl.Asked{askedBy(3, 1, add(record), add(record)), askedBy(3, 1)} {
		text, _ := impl.AskedText(a)
		wantApart(t, []string{text}, whole)
	}
}

// What is told hangs on the arguments alone, not on what was asked ahead, nor on who gave up.
func TestControlsAreToldAlikeEachTime(t *testing.T) {
	r := rand.New(rand.NewSource(174))
	c := controlOf3()
	row := randomAskedRow(r, "ex.com", mostAsked)
	for range 100 {
		checkControl(t, c)
		checkTake(t, c, askedBy(3, 6, add(addressOf("b.ex.com", 2))))
		checkTake(t, c, askedBy(3, 4))
		checkPlayAsked(t, "ex.com", row)
		checkAskedFrom(t, "3 20\n1 a.ex.com 60 1 1.2.3.4")
		checkAskedFrom(t, "3 20\n1 a.ex.com 60 1 1.2.3")
		other := randomControl(r)
		checkTake(t, other, randomAsked(r, other))
	}
}

// Whoever asks at the same time asks for himself.
func TestControlsAreToldAlikeToSeveralAtOnce(t *testing.T) {
	c := controlOf3()
	row := randomAskedRow(rand.New(rand.NewSource(175)), "ex.com", mostAsked)
	ended := make(chan bool)
	for range 8 {
		go func() {
			for range 20 {
				checkTake(t, c, askedBy(3, 6, add(addressOf("b.ex.com", 2))))
				checkTake(t, c, askedBy(3, 4))
				checkPlayAsked(t, "ex.com", row)
				checkAskedFrom(t, "3 20\n1 a.ex.com 60 1 1.2.3.4")
			}
			ended <- true
		}()
	}
	for range 8 {
		<-ended
	}
}
