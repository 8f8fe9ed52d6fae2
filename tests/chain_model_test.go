package tests

import (
	"fmt"
	"math/rand"
	"slices"
	"strings"

	"loop.example/g00300/impl"
)

// The model has its own numbers, so that the program's constants are asked for, too.
const (
	mostLinks   = 6
	mostKept    = 40
	mostSteps   = 200
	longestText = 20
)

const (
	stepPut  = 1
	stepPass = 2
	stepBack = 3
	stepFail = 4
	stepJoin = 5
)

// logKey tells a log by one text, so that one log is the beginning of another where its text is that of the other's.
func logKey(log []string) string {
	var key strings.Builder
	for _, text := range log {
		fmt.Fprintf(&key, "%d:%s", len(text), text)
	}
	return key.String()
}

func wantGoodLog(log []string) bool {
	longest := 0
	for _, text := range log {
		longest = max(longest, len(text))
	}
	return len(log) <= mostKept && longest <= longestText
}

// wantGoodChain holds each link against all behind it, as the document tells it.
func wantGoodChain(c impl.Chain) bool {
	many := len(c.Links)
	if many == 0 || many > mostLinks {
		return false
	}
	tail := c.Links[many-1]
	for i, link := range c.Links {
		if !wantGoodLog(link.Log) || link.Sent < 0 || link.Sure < 0 || link.Sure > min(len(tail.Log), len(link.Log)) {
			return false
		}
		for _, behind := range c.Links[i+1:] {
			if !strings.HasPrefix(logKey(link.Log), logKey(behind.Log)) || link.Sure > behind.Sure {
				return false
			}
		}
		if i+1 < many && link.Sent > len(c.Links[i+1].Log) {
			return false
		}
	}
	return tail.Sent == 0 && tail.Sure == len(tail.Log)
}

// counted is a chain by numbers: each Log being the beginning of the head's, it is enough how many of these texts each link has.
type counted struct {
	texts           []string
	has, sent, sure []int
}

func countedOf(c impl.Chain) counted {
	m := counted{texts: slices.Clone(c.Links[0].Log)}
	for _, link := range c.Links {
		m.has, m.sent, m.sure = append(m.has, len(link.Log)), append(m.sent, link.Sent), append(m.sure, link.Sure)
	}
	return m
}

func (m counted) chain() impl.Chain {
	var c impl.Chain
	for i, has := range m.has {
		c.Links = append(c.Links, linkAt(m.texts[:has], m.sent[i], m.sure[i]))
	}
	return c
}

// without has one link less.
func (m counted) without(at int) counted {
	m.has, m.sent, m.sure = slices.Delete(m.has, at, at+1), slices.Delete(m.sent, at, at+1), slices.Delete(m.sure, at, at+1)
	if at > 0 {
		m.sent[at-1] = 0
	}
	m.texts = m.texts[:m.has[0]]
	return m
}

// longer has one link more, which is as the one ahead of it.
func (m counted) longer() counted {
	last := len(m.has) - 1
	m.has, m.sure, m.sent = append(m.has, m.has[last]), append(m.sure, m.has[last]), append(m.sent, 0)
	m.sent[last] = m.has[last]
	return m
}

// step tells false where nothing can be done.
func (m counted) step(s impl.ChainStep) (counted, bool) {
	many, at := len(m.has), s.K
	there := at >= 0 && at < many
	ahead := there && at < many-1
	switch {
	case s.Kind == stepPut && len(m.texts) < mostKept && len(s.Text) <= longestText:
		m.texts = append(m.texts, s.Text)
		m.has[0]++
	case s.Kind == stepPass && ahead && m.has[at] > m.has[at+1]:
		m.has[at+1]++
		m.sent[at] = m.has[at+1]
	case s.Kind == stepBack && ahead && m.sure[at] < m.sure[at+1]:
		m.sure[at] = m.sure[at+1]
	case s.Kind == stepFail && there && many > 1:
		m = m.without(at)
	case s.Kind == stepJoin && many < mostLinks:
		m = m.longer()
	default:
		return m, false
	}
	last := len(m.has) - 1
	m.sent[last], m.sure[last] = 0, m.has[last]
	return m, true
}

func wantNewChain(links int) (impl.Chain, bool) {
	if links < 1 || links > mostLinks {
		return impl.Chain{}, false
	}
	return chainWith(make([]impl.Link, links)...), true
}

func wantStepChain(c impl.Chain, s impl.ChainStep) (impl.Chain, bool) {
	if !wantGoodChain(c) {
		return impl.Chain{}, false
	}
	m, ok := countedOf(c).step(s)
	if !ok {
		return impl.Chain{}, false
	}
	return m.chain(), true
}

func wantPlayChain(links int, l []impl.ChainStep) (impl.Chain, []bool, bool) {
	c, ok := wantNewChain(links)
	if !ok || len(l) > mostSteps {
		return impl.Chain{}, nil, false
	}
	m, all := countedOf(c), []bool(nil)
	for _, s := range l {
		m, ok = m.step(s)
		all = append(all, ok)
	}
	return m.chain(), all, true
}

func wantSureIn(c impl.Chain) ([]string, bool) {
	if !wantGoodChain(c) {
		return nil, false
	}
	return c.Links[0].Log[:c.Links[0].Sure], true
}

func wantReadTail(c impl.Chain) ([]string, bool) {
	if !wantGoodChain(c) {
		return nil, false
	}
	return c.Links[len(c.Links)-1].Log, true
}

// wantDrained tells what comes of it at once: in the end each has what the head has, and knows of it, and who knew less has learnt it once.
func wantDrained(c impl.Chain) (impl.Chain, int, bool) {
	if !wantGoodChain(c) {
		return impl.Chain{}, 0, false
	}
	m, all := countedOf(c), 0
	for i := range m.has {
		if lacks := m.has[0] - m.has[i]; lacks > 0 {
			m.has[i], m.sent[i-1] = m.has[0], m.has[0]
			all += lacks
		}
		if i+1 < len(m.has) && m.sure[i] < m.has[0] {
			all++
		}
		m.sure[i] = m.has[0]
	}
	return m.chain(), all, true
}

func linkAt(log []string, sent, sure int) impl.Link {
	return impl.Link{Log: slices.Clone(log), Sent: sent, Sure: sure}
}

func chainWith(links ...impl.Link) impl.Chain {
	return impl.Chain{Links: slices.Clone(links)}
}

// linkWith has the words of a text in its Log.
func linkWith(words string, sent, sure int) impl.Link {
	return linkAt(strings.Fields(words), sent, sure)
}

// unlikeTexts are so many texts, all of them unlike.
func unlikeTexts(many int) []string {
	var l []string
	for i := range many {
		l = append(l, fmt.Sprintf("text %d", i))
	}
	return l
}

func alikeLinks(a, b impl.Link) bool {
	return slices.Equal(a.Log, b.Log) && a.Sent == b.Sent && a.Sure == b.Sure
}

func alikeChains(a, b impl.Chain) bool {
	return slices.EqualFunc(a.Links, b.Links, alikeLinks)
}

func textsOfChain(c impl.Chain) []string {
	var texts []string
	for _, link := range c.Links {
		texts = append(texts, link.Log...)
	}
	return texts
}

func goodTexts() []string {
	return []string{"", "a", "b", "A", "a b", "1:a", "\n", "\x00", "\xff\xfe", strings.Repeat("x", longestText), strings.Repeat("\x00", longestText)}
}

func badTexts() []string {
	return []string{strings.Repeat("x", longestText+1), strings.Repeat("\x00", longestText+1), strings.Repeat("é", 11), strings.Repeat("long ", 1<<12)}
}

// randomChain is good. Often its links have as much as the next one, the most, or nothing.
func randomChain(r *rand.Rand) impl.Chain {
	many, room := 1+r.Intn(mostLinks), oneOf(r, []int{0, 1, 3, 8, mostKept - 1, mostKept})
	var m counted
	for range room {
		m.texts = append(m.texts, oneOf(r, goodTexts()))
	}
	for has := room; len(m.has) < many; has = oneOf(r, []int{has, has, max(0, has-1), r.Intn(has + 1)}) {
		m.has, m.sent, m.sure = append(m.has, has), append(m.sent, 0), append(m.sure, has)
	}
	for i := many - 2; i >= 0; i-- {
		m.sent[i] = oneOf(r, []int{0, m.has[i+1], m.has[i+1], r.Intn(m.has[i+1] + 1)})
		m.sure[i] = oneOf(r, []int{0, m.sure[i+1], m.sure[i+1], r.Intn(m.sure[i+1] + 1)})
	}
	return m.chain()
}

// damagedChain changes one thing about a chain; what is handed in stays as it is.
func damagedChain(r *rand.Rand, c impl.Chain) impl.Chain {
	c = freshChain(c)
	if len(c.Links) == 0 {
		return chainWith(linkWith("a", 0, 1))
	}
	at, other := r.Intn(len(c.Links)), r.Intn(len(c.Links))
	link := &c.Links[at]
	counts := []int{-1, 0, 1, len(link.Log) - 1, len(link.Log), len(link.Log) + 1, len(c.Links[other].Log), c.Links[other].Sure + 1, oneOf(r, wildInts())}
	switch r.Intn(9) {
	case 0:
		c.Links = c.Links[:at]
	case 1:
		c.Links = append(c.Links, slices.Repeat(c.Links[len(c.Links)-1:], 1+r.Intn(mostLinks))...)
	case 2:
		link.Log = append(link.Log, oneOf(r, append(badTexts(), goodTexts()...)))
	case 3:
		if len(link.Log) > 0 {
			link.Log[r.Intn(len(link.Log))] = oneOf(r, append(badTexts(), goodTexts()...))
		}
	case 4:
		link.Log = slices.Repeat(link.Log, 1+mostKept/(1+len(link.Log)))
	case 5:
		link.Log = link.Log[:r.Intn(len(link.Log)+1)]
	case 6:
		link.Sent = oneOf(r, counts)
	case 7:
		link.Sure = oneOf(r, counts)
	case 8:
		c.Links[at], c.Links[other] = c.Links[other], c.Links[at]
	}
	return c
}

// randomChainStep leans on steps of links that are there.
func randomChainStep(r *rand.Rand, links int) impl.ChainStep {
	s := impl.ChainStep{Kind: 1 + r.Intn(stepJoin), K: r.Intn(links + 1), Text: oneOf(r, goodTexts())}
	switch r.Intn(30) {
	case 0:
		s.Kind = oneOf(r, append(wildInts(), 0, stepJoin+1))
	case 1:
		s.K = oneOf(r, append(wildInts(), links-1, links+1))
	case 2:
		s.Text = oneOf(r, badTexts())
	}
	return s
}

// randomChainSteps lean on one kind, so that texts come to the tail, or links come and go; these fail and join half as often as they do all else.
func randomChainSteps(r *rand.Rand, many int) []impl.ChainStep {
	var l []impl.ChainStep
	kinds := []int{stepPut, stepPut, stepPass, stepPass, stepBack, stepBack, stepFail, stepJoin}
	often := oneOf(r, kinds)
	for range many {
		s := randomChainStep(r, 1+r.Intn(mostLinks))
		if s.Kind >= stepPut && s.Kind <= stepJoin {
			s.Kind = oneOf(r, append(kinds, often, often, often))
		}
		l = append(l, s)
	}
	return l
}

// freshChain lies in memory of its own.
func freshChain(c impl.Chain) impl.Chain {
	c = chainWith(c.Links...)
	for i, link := range c.Links {
		c.Links[i].Log = freshTexts(link.Log)
	}
	return c
}
