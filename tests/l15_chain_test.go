package tests

import (
	"math/rand"
	"slices"
	"strings"
	"testing"

	"loop.example/g00300/impl"
)

func putStep(text string) impl.ChainStep {
	return impl.ChainStep{Kind: stepPut, Text: text}
}

func passStep(k int) impl.ChainStep {
	return impl.ChainStep{Kind: stepPass, K: k}
}

func backStep(k int) impl.ChainStep {
	return impl.ChainStep{Kind: stepBack, K: k}
}

func failStep(k int) impl.ChainStep {
	return impl.ChainStep{Kind: stepFail, K: k}
}

func joinStep() impl.ChainStep {
	return impl.ChainStep{Kind: stepJoin}
}

// allStepsAt has a step of each kind, and of none.
func allStepsAt(k int) []impl.ChainStep {
	var l []impl.ChainStep
	for kind := -1; kind <= stepJoin+1; kind++ {
		l = append(l, impl.ChainStep{Kind: kind, K: k, Text: "a"})
	}
	return l
}

// wantChainGood tells the chain.
func wantChainGood(t *testing.T, links ...impl.Link) impl.Chain {
	t.Helper()
	c := chainWith(links...)
	if !impl.GoodChain(c) {
		t.Errorf("GoodChain(%s) = false", shown(c))
	}
	return c
}

// wantChainBad also asks whoever is given a chain.
func wantChainBad(t *testing.T, links ...impl.Link) {
	t.Helper()
	c := chainWith(links...)
	if impl.GoodChain(c) {
		t.Errorf("GoodChain(%s) = true", shown(c))
	}
	for k := -1; k <= 2; k++ {
		wantNotStepped(t, c, allStepsAt(k)...)
	}
	if log, ok := impl.SureIn(c); len(log) != 0 || ok {
		t.Errorf("SureIn(%s) = %q, %v", shown(c), log, ok)
	}
	if log, ok := impl.ReadTail(c); len(log) != 0 || ok {
		t.Errorf("ReadTail(%s) = %q, %v", shown(c), log, ok)
	}
	if got, many, ok := impl.DrainChain(c); len(got.Links) != 0 || many != 0 || ok {
		t.Errorf("DrainChain(%s) = %v, %d, %v", shown(c), got, many, ok)
	}
}

// wantStepped tells the chain behind the step.
func wantStepped(t *testing.T, c impl.Chain, s impl.ChainStep, links ...impl.Link) impl.Chain {
	t.Helper()
	got, ok := impl.StepChain(c, s)
	if !alikeChains(got, chainWith(links...)) || !ok || !impl.GoodChain(got) {
		t.Errorf("StepChain(%v, %v) = %v, %v; want %v", c, s, got, ok, links)
	}
	return got
}

func wantNotStepped(t *testing.T, c impl.Chain, steps ...impl.ChainStep) {
	t.Helper()
	for _, s := range steps {
		if got, ok := impl.StepChain(c, s); len(got.Links) != 0 || ok {
			t.Errorf("StepChain(%s, %s) = %v, %v", shown(c), shown(s), got, ok)
		}
	}
}

// wantStepsDone has a + for each step that is done, a - for each that isn't.
func wantStepsDone(t *testing.T, many int, steps []impl.ChainStep, done string, links ...impl.Link) {
	t.Helper()
	got, all, ok := impl.PlayChain(many, steps)
	if !alikeChains(got, chainWith(links...)) || signsOf(all) != done || !ok {
		t.Errorf("PlayChain(%d, %v) = %v, %s, %v; want %v, %s", many, steps, got, signsOf(all), ok, links, done)
	}
}

func signsOf(l []bool) string {
	var signs string
	for _, done := range l {
		signs += map[bool]string{true: "+", false: "-"}[done]
	}
	return signs
}

func wantNoSteps(t *testing.T, many int, steps ...impl.ChainStep) {
	t.Helper()
	if got, all, ok := impl.PlayChain(many, steps); len(got.Links) != 0 || len(all) != 0 || ok {
		t.Errorf("PlayChain(%d, %s) = %v, %v, %v", many, shown(steps), got, all, ok)
	}
}

// wantSureAndTold asks for what the head knows to be sure, and for what the tail has.
func wantSureAndTold(t *testing.T, c impl.Chain, sure, tail []string) {
	t.Helper()
	if got, ok := impl.SureIn(c); !slices.Equal(got, sure) || !ok {
		t.Errorf("SureIn(%v) = %q, %v; want %q", c, got, ok, sure)
	}
	if got, ok := impl.ReadTail(c); !slices.Equal(got, tail) || !ok {
		t.Errorf("ReadTail(%v) = %q, %v; want %q", c, got, ok, tail)
	}
}

func wantDrainedTo(t *testing.T, c impl.Chain, many int, links ...impl.Link) {
	t.Helper()
	got, all, ok := impl.DrainChain(c)
	if !alikeChains(got, chainWith(links...)) || all != many || !ok || !impl.GoodChain(got) {
		t.Errorf("DrainChain(%v) = %v, %d, %v; want %v, %d", c, got, all, ok, links, many)
	}
	// Behind it nothing is left to do.
	if again, all, ok := impl.DrainChain(got); !alikeChains(again, got) || all != 0 || !ok {
		t.Errorf("DrainChain(%v) = %v, %d, %v", got, again, all, ok)
	}
}

// fullLinks are so many links that all have the same, and know of it.
func fullLinks(links int, log []string) []impl.Link {
	var l []impl.Link
	for range links {
		l = append(l, linkAt(log, len(log), len(log)))
	}
	if links > 0 {
		l[links-1].Sent = 0
	}
	return l
}

func TestChainConstants(t *testing.T) {
	got := []int{impl.MaxLinks, impl.MaxKept, impl.MaxChainSteps, impl.ChainPut, impl.ChainPass, impl.ChainBack, impl.ChainFail, impl.ChainJoin}
	if !slices.Equal(got, []int{mostLinks, mostKept, mostSteps, stepPut, stepPass, stepBack, stepFail, stepJoin}) {
		t.Error(got)
	}
}

func TestNewChains(t *testing.T) {
	for many := 1; many <= 6; many++ {
		c, ok := impl.NewChain(many)
		if !alikeChains(c, chainWith(make([]impl.Link, many)...)) || !ok || !impl.GoodChain(c) {
			t.Errorf("NewChain(%d) = %v, %v", many, c, ok)
		}
		wantSureAndTold(t, c, nil, nil)
		wantDrainedTo(t, c, 0, c.Links...)
	}
	for _, many := range append(wildInts(), 0, -2, 7, 8, 40, 256) {
		if c, ok := impl.NewChain(many); len(c.Links) != 0 || ok {
			t.Errorf("NewChain(%d) = %v, %v", many, c, ok)
		}
		wantNoSteps(t, many)
		wantNoSteps(t, many, putStep("a"))
	}
}

func TestHowManyLinks(t *testing.T) {
	wantChainBad(t)
	for many := 1; many <= 6; many++ {
		wantChainGood(t, make([]impl.Link, many)...)
		wantChainGood(t, fullLinks(many, []string{"a", "b"})...)
	}
	for _, many := range []int{7, 8, 12, 256, 1 << 16} {
		wantChainBad(t, make([]impl.Link, many)...)
		wantChainBad(t, fullLinks(many, []string{"a", "b"})...)
	}
}

func TestHowManyTexts(t *testing.T) {
	for many := 0; many <= 40; many++ {
		log := unlikeTexts(many)
		for links := 1; links <= 6; links++ {
			wantSureAndTold(t, wantChainGood(t, fullLinks(links, log)...), log, log)
		}
		wantChainGood(t, linkAt(log, 0, 0), linkWith("", 0, 0))
	}
	for _, many := range []int{41, 42, 80, 256, 1 << 12} {
		log := unlikeTexts(many)
		for links := 1; links <= 6; links++ {
			wantChainBad(t, fullLinks(links, log)...)
		}
		wantChainBad(t, linkAt(log, 0, 0), linkWith("", 0, 0))
		wantChainBad(t, linkAt(log, 40, 40), linkAt(log[:40], 0, 40))
	}
}

func TestTextsOfLogs(t *testing.T) {
	for _, text := range goodTexts() {
		log := []string{text, "a", text}
		wantSureAndTold(t, wantChainGood(t, linkAt(log, 0, 3)), log, log)
		wantSureAndTold(t, wantChainGood(t, linkAt(log, 0, 0), linkAt(log[:1], 0, 1)), nil, log[:1])
		wantChainGood(t, fullLinks(6, log)...)
	}
	for _, text := range append(badTexts(), strings.Repeat("x", 22), strings.Repeat("a.", 1<<20)) {
		for _, log := range [][]string{{text}, {text, "a"}, {"a", text}, {"a", text, "b"}} {
			wantChainBad(t, linkAt(log, 0, len(log)))
			wantChainBad(t, linkAt(log, 0, 0), linkWith("", 0, 0))
			wantChainBad(t, fullLinks(3, log)...)
		}
	}
	// The bytes of all texts together are no limit.
	long := strings.Repeat("x", 20)
	wantChainGood(t, fullLinks(6, slices.Repeat([]string{long}, 40))...)
}

func TestLogsAreBeginnings(t *testing.T) {
	for _, log := range []string{"", "a", "a b", "a b c"} {
		many := len(strings.Fields(log))
		wantChainGood(t, linkWith("a b c", 0, 0), linkWith(log, 0, many))
		wantChainGood(t, linkWith("a b c", 0, 0), linkWith("a b c", 0, 0), linkWith(log, 0, many))
		wantChainGood(t, linkWith("a b c", 0, 0), linkWith(log, 0, 0), linkWith(log, 0, many))
	}
	for _, log := range []string{"b", "a c", "A", "a b C", "a a", "b a", "a b c d", "a b c c", "a b c a b c", "c b a", "b c", "ab c", "aa", "a bc"} {
		many := len(strings.Fields(log))
		wantChainBad(t, linkWith("a b c", 0, 0), linkWith(log, 0, many))
		wantChainBad(t, linkWith("a b c", 0, 0), linkWith("a b c", 0, 0), linkWith(log, 0, many))
		wantChainBad(t, linkWith("a b c", 0, 0), linkWith(log, 0, 0), linkWith("", 0, 0))
		wantChainBad(t, linkWith("a b c d e", 0, 0), linkWith("a b c", 0, 0), linkWith(log, 0, many))
	}
	// Of no text at all, and of one that is empty.
	wantChainBad(t, linkWith("", 0, 0), linkAt([]string{""}, 0, 1))
	wantChainBad(t, linkAt([]string{"a"}, 0, 0), linkAt([]string{""}, 0, 1))
	wantChainGood(t, linkAt([]string{"", "a"}, 0, 0), linkAt([]string{""}, 0, 1))
	// The one ahead counts, not the head alone.
	wantChainBad(t, linkWith("a b", 0, 0), linkWith("a", 0, 0), linkWith("a b", 0, 2))
	wantChainBad(t, linkWith("a b", 0, 0), linkWith("", 0, 0), linkWith("a", 0, 1))
}

func TestSentOfLinks(t *testing.T) {
	for sent := range 3 {
		wantChainGood(t, linkWith("a b c", sent, 0), linkWith("a b", 0, 2))
		wantChainGood(t, linkWith("a b c", sent, 0), linkWith("a b", 1, 0), linkWith("a", 0, 1))
		wantChainGood(t, linkWith("a b c", 3, 0), linkWith("a b c", sent, 0), linkWith("a b", 0, 2))
	}
	for _, sent := range append(wildInts(), -2, 3, 4, 40, 41) {
		wantChainBad(t, linkWith("a b c", sent, 0), linkWith("a b", 0, 2))
		wantChainBad(t, linkWith("a b c", sent, 0), linkWith("a b", 1, 0), linkWith("a", 0, 1))
		wantChainBad(t, linkWith("a b c", 3, 0), linkWith("a b c", sent, 0), linkWith("a b", 0, 2))
	}
	for _, sent := range append(wildInts(), 1, 2, 3, 4) {
		wantChainBad(t, linkWith("a b", sent, 2))
		wantChainBad(t, linkWith("a b c", 2, 0), linkWith("a b", sent, 2))
	}
	// What the next one has not got, though the one behind it cannot lack it.
	wantChainBad(t, linkWith("a", 1, 0), linkWith("", 0, 0))
	wantChainGood(t, linkWith("a", 0, 0), linkWith("", 0, 0))
}

func TestSureOfLinks(t *testing.T) {
	for sure := range 3 {
		wantSureAndTold(t, wantChainGood(t, linkWith("a b c", 0, sure), linkWith("a b", 0, 2)), []string{"a", "b"}[:sure], []string{"a", "b"})
		wantChainGood(t, linkWith("a b c d", 0, sure), linkWith("a b c", 0, 2), linkWith("a b", 0, 2))
		wantChainGood(t, linkWith("a b c d", 0, sure), linkWith("a b c", 0, sure), linkWith("a b", 0, 2))
		wantChainGood(t, linkWith("a b c d", 0, 0), linkWith("a b c", 0, sure), linkWith("a b", 0, 2))
	}
	// More than the tail has, up to what the link has itself, and more than that.
	for _, sure := range append(wildInts(), -2, 3, 4, 5, 40) {
		wantChainBad(t, linkWith("a b c d", 0, sure), linkWith("a b", 0, 2))
		wantChainBad(t, linkWith("a b", 0, sure), linkWith("a b", 0, 2))
		wantChainBad(t, linkWith("a b c d", 0, sure), linkWith("a b c", 0, 2), linkWith("a b", 0, 2))
		wantChainBad(t, linkWith("a b c d", 0, 0), linkWith("a b c", 0, sure), linkWith("a b", 0, 2))
		wantChainBad(t, linkWith("a b c d", 0, sure), linkWith("a b c", 0, sure), linkWith("a b", 0, 2))
	}
	// More than the next one is sure of, though the tail has it.
	for next := range 4 {
		for sure := range 5 {
			links := []impl.Link{linkWith("a b c d", 0, sure), linkWith("a b c", 0, next), linkWith("a b c", 0, 3)}
			if sure <= next {
				wantChainGood(t, links...)
			} else {
				wantChainBad(t, links...)
			}
		}
	}
}

func TestSureOfTails(t *testing.T) {
	for many := range 41 {
		log := unlikeTexts(many)
		wantChainGood(t, linkAt(log, 0, many))
		wantChainGood(t, linkAt(log, 0, 0), linkAt(log, 0, many))
		for _, sure := range append(wildInts(), many-1, many+1, many-2, 41) {
			wantChainBad(t, linkAt(log, 0, sure))
			wantChainBad(t, linkAt(log, 0, 0), linkAt(log, 0, sure))
		}
	}
}

func TestPutToTheHead(t *testing.T) {
	one := wantStepped(t, chainWith(linkWith("", 0, 0)), putStep("a"), linkWith("a", 0, 1))
	wantStepped(t, one, putStep("b"), linkWith("a b", 0, 2))
	wantStepped(t, one, putStep("a"), linkWith("a a", 0, 2))
	two := wantStepped(t, chainWith(make([]impl.Link, 2)...), putStep("a"), linkWith("a", 0, 0), linkWith("", 0, 0))
	wantStepped(t, two, putStep("b"), linkWith("a b", 0, 0), linkWith("", 0, 0))
	three := chainWith(linkWith("a b", 1, 1), linkWith("a", 1, 1), linkWith("a", 0, 1))
	wantStepped(t, three, putStep("c"), linkWith("a b c", 1, 1), linkWith("a", 1, 1), linkWith("a", 0, 1))
}

// It has no link that it is put to, but the head.
func TestPutKnowsNoNumber(t *testing.T) {
	for _, k := range append(wildInts(), 0, 1, 2, 3) {
		s := impl.ChainStep{Kind: stepPut, K: k, Text: "b"}
		wantStepped(t, chainWith(linkWith("a", 0, 1)), s, linkWith("a b", 0, 2))
		wantStepped(t, chainWith(linkWith("a", 0, 0), linkWith("", 0, 0)), s, linkWith("a b", 0, 0), linkWith("", 0, 0))
	}
}

func TestTextsThatArePut(t *testing.T) {
	for _, text := range goodTexts() {
		wantStepped(t, chainWith(linkWith("a", 0, 1)), putStep(text), linkAt([]string{"a", text}, 0, 2))
		wantStepped(t, chainWith(make([]impl.Link, 2)...), putStep(text), linkAt([]string{text}, 0, 0), linkWith("", 0, 0))
	}
	for _, text := range append(badTexts(), strings.Repeat("x", 22), strings.Repeat("a.", 1<<20)) {
		wantNotStepped(t, chainWith(linkWith("a", 0, 1)), putStep(text))
		wantNotStepped(t, chainWith(make([]impl.Link, 2)...), putStep(text))
		wantStepsDone(t, 1, []impl.ChainStep{putStep("a"), putStep(text), putStep("b")}, "+-+", linkWith("a b", 0, 2))
	}
}

func TestRoomForTexts(t *testing.T) {
	texts := unlikeTexts(41)
	for _, many := range []int{0, 1, 38, 39} {
		wantStepped(t, chainWith(linkAt(texts[:many], 0, many)), putStep(texts[many]), linkAt(texts[:many+1], 0, many+1))
		wantStepped(t, chainWith(linkAt(texts[:many], 0, 0), linkWith("", 0, 0)), putStep(texts[many]), linkAt(texts[:many+1], 0, 0), linkWith("", 0, 0))
	}
	wantNotStepped(t, chainWith(linkAt(texts[:40], 0, 40)), putStep("a"), putStep(""), putStep(texts[0]))
	// What the others have is no matter: the head has no room.
	wantNotStepped(t, chainWith(linkAt(texts[:40], 0, 0), linkWith("", 0, 0)), putStep("a"), putStep(""))
	wantNotStepped(t, chainWith(fullLinks(6, texts[:40])...), putStep("a"), putStep(""))
	// A head with less room than the one that failed.
	c := chainWith(linkAt(texts[:40], 0, 0), linkAt(texts[:39], 0, 0), linkWith("", 0, 0))
	c = wantStepped(t, c, failStep(0), linkAt(texts[:39], 0, 0), linkWith("", 0, 0))
	wantStepped(t, c, putStep("new"), linkAt(append(unlikeTexts(39), "new"), 0, 0), linkWith("", 0, 0))
}

func TestPassToTheTail(t *testing.T) {
	c := chainWith(linkWith("a b c", 0, 0), linkWith("", 0, 0))
	c = wantStepped(t, c, passStep(0), linkWith("a b c", 1, 0), linkWith("a", 0, 1))
	c = wantStepped(t, c, passStep(0), linkWith("a b c", 2, 0), linkWith("a b", 0, 2))
	wantSureAndTold(t, c, nil, []string{"a", "b"})
	c = wantStepped(t, c, passStep(0), linkWith("a b c", 3, 0), linkWith("a b c", 0, 3))
	wantNotStepped(t, c, passStep(0), passStep(1), passStep(-1), passStep(2))
}

func TestPassToAnother(t *testing.T) {
	c := chainWith(linkWith("a b c", 0, 0), linkWith("a", 0, 0), linkWith("", 0, 0))
	c = wantStepped(t, c, passStep(0), linkWith("a b c", 2, 0), linkWith("a b", 0, 0), linkWith("", 0, 0))
	c = wantStepped(t, c, passStep(0), linkWith("a b c", 3, 0), linkWith("a b c", 0, 0), linkWith("", 0, 0))
	wantNotStepped(t, c, passStep(0), passStep(2), passStep(-1), passStep(3))
	c = wantStepped(t, c, passStep(1), linkWith("a b c", 3, 0), linkWith("a b c", 1, 0), linkWith("a", 0, 1))
	wantStepped(t, c, passStep(1), linkWith("a b c", 3, 0), linkWith("a b c", 2, 0), linkWith("a b", 0, 2))
}

// What is passed on hangs on what the next one has, not on what its Sent says.
func TestPassKnowsWhatTheNextOneHas(t *testing.T) {
	for sent := range 3 {
		c := chainWith(linkWith("a b c d", sent, 0), linkWith("a b", 0, 2))
		wantStepped(t, c, passStep(0), linkWith("a b c d", 3, 0), linkWith("a b c", 0, 3))
		c = chainWith(linkWith("a b c d", sent, 1), linkWith("a b", 1, 1), linkWith("a", 0, 1))
		wantStepped(t, c, passStep(0), linkWith("a b c d", 3, 1), linkWith("a b c", 1, 1), linkWith("a", 0, 1))
	}
	// Where the next one has all nothing can be done, though Sent be less.
	for sent := range 3 {
		wantNotStepped(t, chainWith(linkWith("a b", sent, 0), linkWith("a b", 0, 2)), passStep(0))
	}
}

func TestPassOfTheLastText(t *testing.T) {
	texts := unlikeTexts(40)
	c := chainWith(linkAt(texts, 39, 39), linkAt(texts[:39], 0, 39))
	c = wantStepped(t, c, passStep(0), linkAt(texts, 40, 39), linkAt(texts, 0, 40))
	wantNotStepped(t, c, passStep(0))
	wantStepped(t, c, backStep(0), linkAt(texts, 40, 40), linkAt(texts, 0, 40))
}

func TestBackFromTheNextOne(t *testing.T) {
	c := chainWith(linkWith("a b c", 3, 0), linkWith("a b c", 2, 1), linkWith("a b", 0, 2))
	wantStepped(t, c, backStep(0), linkWith("a b c", 3, 1), linkWith("a b c", 2, 1), linkWith("a b", 0, 2))
	c = wantStepped(t, c, backStep(1), linkWith("a b c", 3, 0), linkWith("a b c", 2, 2), linkWith("a b", 0, 2))
	wantSureAndTold(t, c, nil, []string{"a", "b"})
	// All at once, where it is more by several.
	c = wantStepped(t, c, backStep(0), linkWith("a b c", 3, 2), linkWith("a b c", 2, 2), linkWith("a b", 0, 2))
	wantSureAndTold(t, c, []string{"a", "b"}, []string{"a", "b"})
	// The same: there is nothing new.
	wantNotStepped(t, c, backStep(0), backStep(1), backStep(2), backStep(-1), backStep(3))
	wantNotStepped(t, chainWith(make([]impl.Link, 2)...), backStep(0))
	// The next one's is never less in a good chain.
	wantNotStepped(t, chainWith(linkWith("a b", 0, 2), linkWith("a b", 0, 1), linkWith("a b", 0, 2)), backStep(0))
}

func TestFailOfTheHead(t *testing.T) {
	c := chainWith(linkWith("a b c", 2, 0), linkWith("a b", 1, 1), linkWith("a", 0, 1))
	c = wantStepped(t, c, failStep(0), linkWith("a b", 1, 1), linkWith("a", 0, 1))
	wantSureAndTold(t, c, []string{"a"}, []string{"a"})
	// What nobody else had is lost, but told by nobody either.
	c = wantStepped(t, c, failStep(0), linkWith("a", 0, 1))
	wantNotStepped(t, c, failStep(0))
	wantStepped(t, c, putStep("d"), linkWith("a d", 0, 2))
}

func TestFailOfAMiddleLink(t *testing.T) {
	c := chainWith(linkWith("a b c d", 3, 1), linkWith("a b c", 2, 1), linkWith("a b", 1, 1), linkWith("a", 0, 1))
	wantStepped(t, c, failStep(1), linkWith("a b c d", 0, 1), linkWith("a b", 1, 1), linkWith("a", 0, 1))
	c = wantStepped(t, c, failStep(2), linkWith("a b c d", 3, 1), linkWith("a b c", 0, 1), linkWith("a", 0, 1))
	// The one ahead goes on with what its new next one lacks.
	c = wantStepped(t, c, passStep(1), linkWith("a b c d", 3, 1), linkWith("a b c", 2, 1), linkWith("a b", 0, 2))
	wantSureAndTold(t, c, []string{"a"}, []string{"a", "b"})
}

// A new tail is sure of all it has, be it more than the elder one told.
func TestFailOfTheTail(t *testing.T) {
	c := chainWith(linkWith("a b c d", 3, 0), linkWith("a b c", 1, 1), linkWith("a", 0, 1))
	c = wantStepped(t, c, failStep(2), linkWith("a b c d", 3, 0), linkWith("a b c", 0, 3))
	wantSureAndTold(t, c, nil, []string{"a", "b", "c"})
	c = wantStepped(t, c, failStep(1), linkWith("a b c d", 0, 4))
	wantSureAndTold(t, c, []string{"a", "b", "c", "d"}, []string{"a", "b", "c", "d"})
	// One that had no more than it.
	c = chainWith(linkWith("a", 1, 0), linkWith("a", 0, 1))
	wantStepped(t, c, failStep(1), linkWith("a", 0, 1))
	c = chainWith(linkWith("", 0, 0), linkWith("", 0, 0))
	wantStepped(t, c, failStep(1), linkWith("", 0, 0))
}

func TestFailOfTwoLinksAndOfOne(t *testing.T) {
	c := chainWith(linkWith("a b", 1, 0), linkWith("a", 0, 1))
	wantStepped(t, c, failStep(0), linkWith("a", 0, 1))
	wantStepped(t, c, failStep(1), linkWith("a b", 0, 2))
	wantNotStepped(t, c, failStep(-1), failStep(2))
	wantNotStepped(t, chainWith(linkWith("a", 0, 1)), failStep(0), failStep(-1), failStep(1))
}

func TestJoinBehindTheTail(t *testing.T) {
	c := wantStepped(t, chainWith(linkWith("a b", 0, 2)), joinStep(), linkWith("a b", 2, 2), linkWith("a b", 0, 2))
	c = wantStepped(t, c, joinStep(), linkWith("a b", 2, 2), linkWith("a b", 2, 2), linkWith("a b", 0, 2))
	wantSureAndTold(t, c, []string{"a", "b"}, []string{"a", "b"})
	// What the elder tail has is less than what the head has.
	c = chainWith(linkWith("a b c", 1, 0), linkWith("a", 0, 1))
	c = wantStepped(t, c, joinStep(), linkWith("a b c", 1, 0), linkWith("a", 1, 1), linkWith("a", 0, 1))
	// What comes now goes by the elder tail to the new one, who alone makes it sure.
	c = wantStepped(t, c, passStep(0), linkWith("a b c", 2, 0), linkWith("a b", 1, 1), linkWith("a", 0, 1))
	wantStepped(t, c, passStep(1), linkWith("a b c", 2, 0), linkWith("a b", 2, 1), linkWith("a b", 0, 2))
	wantStepped(t, chainWith(linkWith("", 0, 0)), joinStep(), linkWith("", 0, 0), linkWith("", 0, 0))
}

func TestRoomForLinks(t *testing.T) {
	log := unlikeTexts(3)
	for many := 1; many <= 5; many++ {
		for _, k := range append(wildInts(), 0, many-1, many, 6) {
			s := impl.ChainStep{Kind: stepJoin, K: k, Text: strings.Repeat("x", 30)}
			wantStepped(t, chainWith(fullLinks(many, log)...), s, fullLinks(many+1, log)...)
		}
	}
	wantNotStepped(t, chainWith(fullLinks(6, log)...), joinStep())
	wantNotStepped(t, chainWith(make([]impl.Link, 6)...), joinStep())
	wantStepped(t, chainWith(fullLinks(5, unlikeTexts(40))...), joinStep(), fullLinks(6, unlikeTexts(40))...)
}

// Each kind of step at the edges of what links there are.
func TestNumbersOfLinks(t *testing.T) {
	c := chainWith(linkWith("a b c", 1, 0), linkWith("a b", 1, 0), linkWith("a", 0, 1))
	done := map[int][]int{stepPut: {-1, 0, 1, 2, 3}, stepPass: {0, 1}, stepBack: {1}, stepFail: {0, 1, 2}, stepJoin: {-1, 0, 1, 2, 3}}
	for kind := -1; kind <= 6; kind++ {
		for k := -1; k <= 3; k++ {
			s := impl.ChainStep{Kind: kind, K: k, Text: "d"}
			if got, ok := impl.StepChain(c, s); ok != slices.Contains(done[kind], k) || ok == alikeChains(got, impl.Chain{}) {
				t.Errorf("StepChain(%v, %v) = %v, %v", c, s, got, ok)
			}
		}
		for _, k := range wildInts() {
			s := impl.ChainStep{Kind: kind, K: k, Text: "d"}
			if got, ok := impl.StepChain(c, s); ok != (kind == stepPut || kind == stepJoin) {
				t.Errorf("StepChain(%v, %v) = %v, %v", c, s, got, ok)
			}
		}
	}
	for k := -1; k <= 1; k++ {
		wantNotStepped(t, chainWith(linkWith("a", 0, 1)), passStep(k), backStep(k), failStep(k))
	}
}

func TestKindsThatAreNone(t *testing.T) {
	c := chainWith(linkWith("a b", 0, 0), linkWith("a", 0, 1))
	for _, kind := range append(wildInts(), 0, 6, 7, -2, 256+1, 1<<32+1) {
		for k := -1; k <= 2; k++ {
			wantNotStepped(t, c, impl.ChainStep{Kind: kind, K: k, Text: "a"})
		}
		wantStepsDone(t, 1, []impl.ChainStep{{Kind: kind, Text: "a"}, putStep("b")}, "-+", linkWith("b", 0, 1))
	}
	wantNotStepped(t, c, impl.ChainStep{})
}

// A Text counts where it is put alone.
func TestTextsOfOtherSteps(t *testing.T) {
	c := chainWith(linkWith("a b", 0, 0), linkWith("a", 0, 1))
	for _, text := range append(goodTexts(), badTexts()...) {
		wantStepped(t, c, impl.ChainStep{Kind: stepPass, Text: text}, linkWith("a b", 2, 0), linkWith("a b", 0, 2))
		wantStepped(t, c, impl.ChainStep{Kind: stepBack, Text: text}, linkWith("a b", 0, 1), linkWith("a", 0, 1))
		wantStepped(t, c, impl.ChainStep{Kind: stepFail, Text: text}, linkWith("a", 0, 1))
	}
}

func TestRowsOfSteps(t *testing.T) {
	wantStepsDone(t, 1, nil, "", linkWith("", 0, 0))
	wantStepsDone(t, 6, []impl.ChainStep{}, "", make([]impl.Link, 6)...)
	wantStepsDone(t, 2, []impl.ChainStep{passStep(0), putStep("a"), backStep(0), passStep(0), passStep(0), backStep(0), backStep(0)}, "-+-+-+-",
		linkWith("a", 1, 1), linkWith("a", 0, 1))
	// Numbers are those of the links that are there then.
	wantStepsDone(t, 3, []impl.ChainStep{putStep("a"), passStep(0), failStep(2), passStep(1), failStep(1), failStep(0), passStep(0), putStep("b"), joinStep(), putStep("c"), passStep(0)}, "+++-+--++++",
		linkWith("a b c", 3, 2), linkWith("a b c", 0, 3))
	// A step that cannot be done stops none behind it.
	wantStepsDone(t, 1, []impl.ChainStep{{}, failStep(0), passStep(0), putStep("a"), backStep(0), {Kind: 9}, putStep("b")}, "---+--+", linkWith("a b", 0, 2))
}

func TestHowManySteps(t *testing.T) {
	for _, many := range []int{0, 1, 40, 41, 199, 200} {
		steps := slices.Repeat([]impl.ChainStep{putStep("a")}, many)
		put := min(many, 40)
		wantStepsDone(t, 1, steps, strings.Repeat("+", put)+strings.Repeat("-", many-put), linkAt(slices.Repeat([]string{"a"}, put), 0, put))
		wantStepsDone(t, 6, make([]impl.ChainStep, many), strings.Repeat("-", many), make([]impl.Link, 6)...)
		for _, links := range append(wildInts(), 0, 7) {
			wantNoSteps(t, links, steps...)
		}
	}
	for _, many := range []int{201, 202, 400, 1 << 16} {
		for links := range 8 {
			wantNoSteps(t, links, make([]impl.ChainStep, many)...)
			wantNoSteps(t, links, slices.Repeat([]impl.ChainStep{putStep("a")}, many)...)
		}
	}
}

func TestDrainOfNothing(t *testing.T) {
	for many := range 41 {
		for links := 1; links <= 6; links++ {
			full := fullLinks(links, unlikeTexts(many))
			wantDrainedTo(t, chainWith(full...), 0, full...)
		}
	}
	// All have all, but do not know it yet.
	c := chainWith(linkWith("a b", 2, 0), linkWith("a b", 2, 1), linkWith("a b", 0, 2))
	wantDrainedTo(t, c, 2, linkWith("a b", 2, 2), linkWith("a b", 2, 2), linkWith("a b", 0, 2))
	c = chainWith(linkWith("a b", 2, 0), linkWith("a b", 2, 2), linkWith("a b", 0, 2))
	wantDrainedTo(t, c, 1, linkWith("a b", 2, 2), linkWith("a b", 2, 2), linkWith("a b", 0, 2))
	// Where nothing is passed on Sent stays as it is.
	c = chainWith(linkWith("a b", 0, 1), linkWith("a b", 1, 1), linkWith("a b", 0, 2))
	wantDrainedTo(t, c, 2, linkWith("a b", 0, 2), linkWith("a b", 1, 2), linkWith("a b", 0, 2))
}

func TestDrainWhereLinksLackTexts(t *testing.T) {
	c := chainWith(linkWith("a b c", 0, 0), linkWith("", 0, 0))
	wantDrainedTo(t, c, 3+1, linkWith("a b c", 3, 3), linkWith("a b c", 0, 3))
	c = chainWith(linkWith("a b c", 0, 0), linkWith("a b", 1, 0), linkWith("a", 0, 1))
	wantDrainedTo(t, c, 1+2+2, linkWith("a b c", 3, 3), linkWith("a b c", 3, 3), linkWith("a b c", 0, 3))
	// The tail alone lacks some: the head passes nothing on, and its Sent stays.
	c = chainWith(linkWith("a b", 1, 1), linkWith("a b", 1, 1), linkWith("a", 0, 1))
	wantDrainedTo(t, c, 1+2, linkWith("a b", 1, 2), linkWith("a b", 2, 2), linkWith("a b", 0, 2))
	// As much as there can be.
	texts := unlikeTexts(40)
	links := []impl.Link{linkAt(texts, 0, 0)}
	links = append(links, make([]impl.Link, 5)...)
	wantDrainedTo(t, chainWith(links...), 5*40+5, fullLinks(6, texts)...)
}

func TestDrainOfOneLink(t *testing.T) {
	for _, many := range []int{0, 1, 39, 40} {
		link := linkAt(unlikeTexts(many), 0, many)
		wantDrainedTo(t, chainWith(link), 0, link)
	}
}

// wantStillTold: what the tail and the head have told is the beginning of what they tell now, and the head tells of nothing that the tail does not.
func wantStillTold(t *testing.T, before, now impl.Chain) {
	t.Helper()
	hadSure, _ := impl.SureIn(before)
	hadTold, _ := impl.ReadTail(before)
	sure, known := impl.SureIn(now)
	told, ok := impl.ReadTail(now)
	if !ok || !known || !strings.HasPrefix(logKey(told), logKey(hadTold)) || !strings.HasPrefix(logKey(sure), logKey(hadSure)) {
		t.Errorf("%v: %q was told and %q sure; %v: %q, %q", before, hadTold, hadSure, now, told, sure)
	}
	if !strings.HasPrefix(logKey(told), logKey(sure)) {
		t.Errorf("%v: %q is sure, and %q told", now, sure, told)
	}
}

// Promise 15: each link has the beginning of what the one ahead has.
func wantBeginnings(t *testing.T, c impl.Chain) {
	t.Helper()
	for i := range max(0, len(c.Links)-1) {
		if !strings.HasPrefix(logKey(c.Links[i].Log), logKey(c.Links[i+1].Log)) {
			t.Errorf("%v: link %d has more than the one ahead, or other texts", c, i+1)
		}
	}
}

// Promise 15, of all rows of steps, links failing and joining among them: what the tail has told is told for good.
func TestWhatTheTailToldIsToldForGood(t *testing.T) {
	r := rand.New(rand.NewSource(151))
	done, least, most := map[int]int{}, map[int]int{}, 0
	for range 400 {
		c, ok := impl.NewChain(1 + r.Intn(mostLinks))
		if !ok {
			t.Fatal("no chain")
		}
		for _, s := range randomChainSteps(r, mostSteps) {
			next, ok := impl.StepChain(c, s)
			if !ok {
				continue
			}
			wantStillTold(t, c, next)
			wantBeginnings(t, next)
			drained, _, _ := impl.DrainChain(next)
			wantStillTold(t, next, drained)
			c = next
			done[s.Kind]++
			least[len(c.Links)]++
			most = max(most, len(c.Links[len(c.Links)-1].Log))
		}
		if t.Failed() {
			return
		}
	}
	for kind := stepPut; kind <= stepJoin; kind++ {
		if done[kind] < 500 {
			t.Error("the steps are all of one kind", done)
		}
	}
	if len(least) < mostLinks || most < mostKept {
		t.Error("the chains are all of one kind", least, most)
	}
}

// Promise 15, of chains that no row of steps led to, and whatever fails, up to the last link.
func TestWhatTheTailToldIsToldWhoeverFails(t *testing.T) {
	r := rand.New(rand.NewSource(152))
	for range 3000 {
		c := randomChain(r)
		for len(c.Links) > 1 {
			next, ok := impl.StepChain(c, failStep(r.Intn(len(c.Links))))
			if !ok || len(next.Links) != len(c.Links)-1 {
				t.Fatal(c, next, ok)
			}
			wantStillTold(t, c, next)
			wantBeginnings(t, next)
			c = next
		}
		wantNotStepped(t, c, failStep(0))
	}
}

// What is put comes to the tail, in the order in which it was put, as long as the head does not fail.
func TestWhatIsPutIsTold(t *testing.T) {
	r := rand.New(rand.NewSource(153))
	for range 200 {
		c, _ := impl.NewChain(1 + r.Intn(mostLinks))
		var put []string
		for _, s := range randomChainSteps(r, mostSteps) {
			if s.Kind == stepFail && s.K == 0 {
				continue
			}
			if next, ok := impl.StepChain(c, s); ok {
				c = next
				if s.Kind == stepPut {
					put = append(put, s.Text)
				}
			}
		}
		drained, _, ok := impl.DrainChain(c)
		if !ok {
			t.Fatal(c)
		}
		wantSureAndTold(t, drained, put, put)
	}
}

// A row of steps is the steps one by one, and draining is steps, too.
func TestPlayingIsSteps(t *testing.T) {
	r := rand.New(rand.NewSource(154))
	for range 300 {
		links, steps := 1+r.Intn(mostLinks), randomChainSteps(r, r.Intn(mostSteps+1))
		c, _ := impl.NewChain(links)
		var signs string
		for _, s := range steps {
			next, ok := impl.StepChain(c, s)
			if ok {
				c = next
			}
			signs += signsOf([]bool{ok})
		}
		wantStepsDone(t, links, steps, signs, c.Links...)
		drained, many := c, 0
		try := func(s impl.ChainStep) bool {
			next, ok := impl.StepChain(drained, s)
			if ok {
				drained, many = next, many+1
			}
			return ok
		}
		for k := range len(c.Links) {
			for try(passStep(k)) {
			}
		}
		for k := len(c.Links) - 2; k >= 0; k-- {
			try(backStep(k))
		}
		wantDrainedTo(t, c, many, drained.Links...)
	}
}
