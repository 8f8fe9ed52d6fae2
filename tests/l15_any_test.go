package tests

import (
	"math/rand"
	"slices"
	"strings"
	"testing"

	"loop.example/g00300/impl"
)

// checkChain asks for all that is told of a chain alone. It tells whether it is good.
func checkChain(t *testing.T, c impl.Chain) bool {
	t.Helper()
	good := wantGoodChain(c)
	if impl.GoodChain(c) != good {
		t.Errorf("GoodChain(%s) = %v", shown(c), !good)
	}
	log, ok := wantSureIn(c)
	if got, told := impl.SureIn(c); !slices.Equal(got, log) || told != ok {
		t.Errorf("SureIn(%s) = %q, %v; want %q, %v", shown(c), got, told, log, ok)
	}
	log, ok = wantReadTail(c)
	if got, told := impl.ReadTail(c); !slices.Equal(got, log) || told != ok {
		t.Errorf("ReadTail(%s) = %q, %v; want %q, %v", shown(c), got, told, log, ok)
	}
	want, many, ok := wantDrained(c)
	if got, all, told := impl.DrainChain(c); !alikeChains(got, want) || all != many || told != ok {
		t.Errorf("DrainChain(%s) = %v, %d, %v; want %v, %d, %v", shown(c), got, all, told, want, many, ok)
	}
	return good
}

// checkChainStep tells whether it is done.
func checkChainStep(t *testing.T, c impl.Chain, s impl.ChainStep) bool {
	t.Helper()
	want, ok := wantStepChain(c, s)
	got, told := impl.StepChain(c, s)
	if !alikeChains(got, want) || told != ok {
		t.Errorf("StepChain(%s, %s) = %v, %v; want %v, %v", shown(c), shown(s), got, told, want, ok)
	}
	if ok && !impl.GoodChain(got) {
		t.Errorf("StepChain(%v, %v) = %v, which is not good", c, s, got)
	}
	return ok
}

// checkChainPlay tells whether the steps are taken.
func checkChainPlay(t *testing.T, links int, l []impl.ChainStep) bool {
	t.Helper()
	want, ok := wantNewChain(links)
	if got, told := impl.NewChain(links); !alikeChains(got, want) || told != ok {
		t.Errorf("NewChain(%d) = %v, %v; want %v, %v", links, got, told, want, ok)
	}
	want, signs, ok := wantPlayChain(links, l)
	got, done, told := impl.PlayChain(links, l)
	if !alikeChains(got, want) || !slices.Equal(done, signs) || told != ok {
		t.Errorf("PlayChain(%d, %s) = %v, %v, %v; want %v, %v, %v", links, shown(l), got, done, told, want, signs, ok)
	}
	if ok && !impl.GoodChain(got) {
		t.Errorf("PlayChain(%d, %v) = %v, which is not good", links, l, got)
	}
	return ok
}

func TestChainsAnswerAtAnyArguments(t *testing.T) {
	r := rand.New(rand.NewSource(155))
	good, done, many := map[bool]int{}, map[bool]int{}, map[int]int{}
	for range 2500 {
		c := randomChain(r)
		other := damagedChain(r, c)
		for _, tried := range []impl.Chain{c, other, damagedChain(r, other)} {
			good[checkChain(t, tried)]++
			many[len(tried.Links)]++
			for range 6 {
				done[checkChainStep(t, tried, randomChainStep(r, len(tried.Links)))]++
			}
		}
		if t.Failed() {
			return
		}
	}
	if min(good[true], good[false], done[true], done[false]) < 1000 || len(many) < mostLinks {
		t.Error("the chains are all of one kind", good, done, many)
	}
}

func TestRowsOfStepsAnswerAtAnyArguments(t *testing.T) {
	r := rand.New(rand.NewSource(156))
	played := map[bool]int{}
	for range 1500 {
		links := oneOf(r, []int{1, 2, 3, 4, 5, 6, r.Intn(9) - 1, randomInt(r)})
		many := oneOf(r, []int{0, 1, 20, r.Intn(mostSteps), mostSteps - 1, mostSteps, mostSteps, mostSteps + 1})
		played[checkChainPlay(t, links, randomChainSteps(r, many))]++
	}
	if min(played[true], played[false]) < 200 {
		t.Error("the rows are all of one kind", played)
	}
}

// All chains of at most two links, and all of three of which the last one is good for itself, with logs of at most two texts, and numbers just beyond what they have.
func TestAllSmallChains(t *testing.T) {
	var one, last []impl.Link
	for _, log := range []string{"", "a", "b", "a b", "a a"} {
		for sent := -1; sent <= 3; sent++ {
			for sure := -1; sure <= 3; sure++ {
				one = append(one, linkWith(log, sent, sure))
			}
		}
		last = append(last, linkWith(log, 0, len(strings.Fields(log))))
	}
	checkChain(t, impl.Chain{})
	good := 0
	try := func(links ...impl.Link) {
		c := chainWith(links...)
		if !checkChain(t, c) {
			return
		}
		good++
		for k := -1; k <= len(links); k++ {
			for _, s := range allStepsAt(k) {
				checkChainStep(t, c, s)
			}
		}
	}
	for _, a := range one {
		try(a)
		for _, b := range one {
			try(a, b)
			for _, c := range last {
				try(a, b, c)
			}
		}
		if t.Failed() {
			return
		}
	}
	if good < 100 {
		t.Error("few chains are good", good)
	}
}

// All rows of at most five steps of one, two and three links.
func TestAllShortRowsOfSteps(t *testing.T) {
	steps := []impl.ChainStep{putStep("a"), passStep(0), passStep(1), backStep(0), backStep(1), failStep(0), failStep(1), failStep(2), joinStep()}
	for _, numbers := range smallLists(5, 0, len(steps)-1) {
		var l []impl.ChainStep
		for _, n := range numbers {
			l = append(l, steps[n])
		}
		for links := 1; links <= 3; links++ {
			checkChainPlay(t, links, l)
		}
		if t.Failed() {
			return
		}
	}
}

func TestChainsAnswerAtWildArguments(t *testing.T) {
	edges := append(wildInts(), 0, 1, 2, 3, 5, 6, 7, 40, 41, 200, 201)
	long := strings.Repeat("a.", 1<<20)
	texts := append(goodTexts(), append(badTexts(), long)...)
	for _, a := range edges {
		for _, b := range edges {
			for _, log := range [][]string{nil, {}, {""}, {"a"}, {long}, {"a", "b"}} {
				for _, c := range []impl.Chain{
					chainWith(linkAt(log, a, b)), chainWith(linkAt(log, 0, 0), linkAt(log, a, b)), chainWith(linkAt(log, a, b), linkAt(log, 0, len(log))),
					chainWith(linkAt(log, b, 0), linkAt(nil, 0, a)), chainWith(linkAt(log, 0, len(log))),
				} {
					checkChain(t, c)
					checkChainStep(t, c, impl.ChainStep{Kind: a, K: b, Text: "x"})
				}
			}
		}
		for _, text := range texts {
			for k := -1; k <= 2; k++ {
				checkChainStep(t, chainWith(linkWith("a b", 0, 0), linkWith("a", 0, 1)), impl.ChainStep{Kind: a, K: k, Text: text})
			}
			checkChainPlay(t, 2, []impl.ChainStep{putStep("a"), {Kind: a, Text: text}, {Kind: a, K: a, Text: text}, {Kind: 1, K: a, Text: text}})
		}
		checkChainPlay(t, a, nil)
		checkChainPlay(t, a, make([]impl.ChainStep, 1<<16))
		checkChain(t, chainWith(slices.Repeat([]impl.Link{{Sent: a}}, 1<<12)...))
	}
	for _, many := range []int{40, 41, 1 << 16} {
		checkChain(t, chainWith(linkAt(make([]string, many), 0, many)))
		checkChain(t, chainWith(linkAt(make([]string, many), 0, 0), linkAt(make([]string, many), 0, many)))
		checkChainStep(t, chainWith(linkAt(make([]string, many), 0, many)), joinStep())
	}
}

// withSpareLinks puts links behind a chain's, and texts behind each Log, in their memory.
func withSpareLinks(c impl.Chain, spare ...impl.Link) impl.Chain {
	links := append(slices.Clone(c.Links), spare...)
	for i, link := range links {
		links[i].Log = append(slices.Clone(link.Log), "spare", strings.Repeat("spare", 9), "a")[:len(link.Log)]
	}
	return impl.Chain{Links: links[:len(c.Links)]}
}

// wholeLinks tells all that lies in a chain's memory.
func wholeLinks(c impl.Chain) []impl.Link {
	var whole []impl.Link
	for _, link := range c.Links[:cap(c.Links)] {
		whole = append(whole, linkAt(link.Log[:cap(link.Log)], link.Sent, link.Sure))
	}
	return whole
}

// What lies behind links or texts would make a chain longer, or a bad one: it does not count, and stays.
func TestNoChainIsWrittenInto(t *testing.T) {
	r := rand.New(rand.NewSource(157))
	for range 400 {
		c := randomChain(r)
		for _, tried := range []impl.Chain{c, damagedChain(r, c), chainWith(c.Links[:1]...), {}} {
			for _, spare := range [][]impl.Link{{linkWith("", 0, 0)}, {linkWith("x y", 7, 7), {Sent: -1}}, make([]impl.Link, 7)} {
				given := withSpareLinks(tried, spare...)
				before := wholeLinks(given)
				checkChain(t, given)
				for _, s := range allStepsAt(r.Intn(mostLinks)) {
					checkChainStep(t, given, s)
				}
				if !slices.EqualFunc(wholeLinks(given), before, alikeLinks) {
					t.Errorf("%v was written into", before)
				}
			}
		}
	}
}

// What lies behind the steps would be done: it does not count, and stays.
func TestNoStepsAreWrittenInto(t *testing.T) {
	r := rand.New(rand.NewSource(158))
	for range 300 {
		steps := randomChainSteps(r, mostSteps+3)
		before := slices.Clone(steps)
		for _, many := range []int{0, 1, r.Intn(mostSteps), mostSteps, mostSteps + 1} {
			checkChainPlay(t, 1+r.Intn(mostLinks), steps[:many])
		}
		if !slices.Equal(steps, before) {
			t.Errorf("%v was written into", before)
		}
	}
}

// writeOverChain writes over a chain up to its end in memory.
func writeOverChain(c impl.Chain) {
	for _, link := range c.Links {
		writeOver(link.Log, "written")
	}
	writeOver(c.Links, impl.Link{Sent: -7})
}

// wantChainApart: no two texts of a chain lie in the same memory, nor in what was given, nor do two of its lists; nothing lies behind them.
func wantChainApart(t *testing.T, c impl.Chain, given ...string) {
	t.Helper()
	texts := textsOfChain(c)
	wantApart(t, texts, given...)
	for i, text := range texts {
		wantApart(t, []string{text}, texts[i+1:]...)
	}
	for _, link := range c.Links[len(c.Links):cap(c.Links)] {
		if link.Log != nil || link.Sent != 0 || link.Sure != 0 {
			t.Errorf("behind %v stands %v", c, link)
		}
	}
	for _, link := range c.Links {
		wantZerosBehind(t, link.Log)
	}
	kept := freshChain(c)
	for i, link := range c.Links {
		writeOver(link.Log, "written")
		for j, other := range c.Links {
			if j > i && !slices.Equal(other.Log, kept.Links[j].Log) {
				t.Errorf("links %d and %d of %v share memory", i, j, kept)
			}
		}
	}
}

// chainAnswers are all chains that are told of a chain.
func chainAnswers(c impl.Chain, steps []impl.ChainStep) []impl.Chain {
	var all []impl.Chain
	for _, s := range steps {
		if told, ok := impl.StepChain(c, s); ok {
			all = append(all, told)
		}
	}
	drained, _, _ := impl.DrainChain(c)
	return append(all, drained)
}

// Each answer is written over up to its end in memory: neither what was given nor another answer may change by that.
func TestChainAnswersShareNoMemory(t *testing.T) {
	r := rand.New(rand.NewSource(159))
	for range 150 {
		c := freshChain(randomChain(r))
		before := freshChain(c)
		steps := allStepsAt(r.Intn(len(c.Links)))
		for i := range steps {
			steps[i].Text = strings.Clone(oneOf(r, goodTexts()))
		}
		given := append(textsOfChain(c), steps[0].Text)
		for _, s := range steps {
			given = append(given, s.Text)
		}
		told, again, kept := chainAnswers(c, steps), chainAnswers(c, steps), []impl.Chain(nil)
		for _, one := range told {
			kept = append(kept, freshChain(one))
			wantChainApart(t, one, given...)
			writeOverChain(one)
		}
		if !slices.EqualFunc(again, kept, alikeChains) || !alikeChains(c, before) {
			t.Errorf("an answer shares memory with one told ahead, or with %v", before)
		}
	}
}

func TestTextsToldOfChainsShareNoMemory(t *testing.T) {
	r := rand.New(rand.NewSource(160))
	for range 500 {
		c := freshChain(randomChain(r))
		before := freshChain(c)
		for _, ask := range []func(impl.Chain) ([]string, bool){impl.SureIn, impl.ReadTail} {
			told, _ := ask(c)
			again, _ := ask(c)
			wantApart(t, told, append(again, textsOfChain(c)...)...)
			wantZerosBehind(t, told)
			kept := freshTexts(told)
			writeOver(told, "written")
			if !slices.Equal(again, kept) || !alikeChains(c, before) {
				t.Errorf("an answer shares memory with one told ahead, or with %v", before)
			}
		}
	}
}

func TestPlayedChainsShareNoMemory(t *testing.T) {
	r := rand.New(rand.NewSource(161))
	for range 100 {
		links, steps := 1+r.Intn(mostLinks), randomChainSteps(r, mostSteps)
		var given []string
		for i, s := range steps {
			steps[i].Text = strings.Clone(s.Text)
			given = append(given, steps[i].Text)
		}
		before := slices.Clone(steps)
		told, done, _ := impl.PlayChain(links, steps)
		again, doneAgain, _ := impl.PlayChain(links, steps)
		kept, keptDone := freshChain(told), slices.Clone(done)
		wantZerosBehind(t, done)
		wantChainApart(t, told, given...)
		writeOverChain(told)
		for i := range done {
			done[i] = !done[i]
		}
		if !alikeChains(again, kept) || !slices.Equal(doneAgain, keptDone) || !slices.Equal(steps, before) {
			t.Errorf("an answer shares memory with one told ahead, or with %v", before)
		}
		fresh, _ := impl.NewChain(links)
		writeOverChain(fresh)
		if another, _ := impl.NewChain(links); !alikeChains(another, chainWith(make([]impl.Link, links)...)) {
			t.Errorf("new chains share memory: %v", another)
		}
	}
}

// A chain whose texts, and whose logs, lie in one memory is told in memory apart from it.
func TestAChainOfOneMemory(t *testing.T) {
	whole := strings.Clone("abcabc")
	log := []string{whole[:3], whole[3:], whole[1:4]}
	c := impl.Chain{Links: []impl.Link{{Log: log}, {Log: log[:2], Sure: 1}, {Log: log[:1], Sure: 1}}}
	for k := range 3 {
		for _, told := range chainAnswers(c, allStepsAt(k)) {
			wantChainApart(t, told, whole)
		}
	}
	if !slices.Equal(log, []string{"abc", "abc", "bca"}) {
		t.Error(log)
	}
	for _, ask := range []func(impl.Chain) ([]string, bool){impl.SureIn, impl.ReadTail} {
		told, _ := ask(c)
		wantApart(t, told, whole)
	}
}

// What is told hangs on the arguments alone, not on what was asked ahead, nor on what is taken first where much is under way.
func TestChainsAreToldAlikeEachTime(t *testing.T) {
	r := rand.New(rand.NewSource(162))
	texts := unlikeTexts(40)
	c := chainWith(linkAt(texts, 3, 0), linkAt(texts[:20], 2, 1), linkAt(texts[:9], 4, 2), linkAt(texts[:4], 0, 4))
	steps := randomChainSteps(r, mostSteps)
	for range 200 {
		checkChain(t, c)
		checkChainStep(t, c, passStep(1))
		checkChainPlay(t, 4, steps)
		checkChain(t, randomChain(r))
		checkChainPlay(t, 6, randomChainSteps(r, 50))
	}
}

// Whoever asks at the same time asks for himself.
func TestChainsAreToldAlikeToSeveralAtOnce(t *testing.T) {
	texts := unlikeTexts(40)
	c := chainWith(linkAt(texts, 3, 0), linkAt(texts[:20], 2, 1), linkAt(texts[:9], 4, 2), linkAt(texts[:4], 0, 4))
	ended := make(chan bool)
	for range 8 {
		go func() {
			for range 50 {
				checkChain(t, c)
				checkChainStep(t, c, passStep(1))
			}
			ended <- true
		}()
	}
	for range 8 {
		<-ended
	}
}
