package tests

import (
	"math"
	"math/rand"
	"slices"
	"strings"
	"testing"

	"loop.example/g00300/impl"
)

func checkMessage(t *testing.T, m impl.Message, sizes ...int) {
	t.Helper()
	if impl.GoodMessage(m) != wantGoodMessage(m) {
		t.Errorf("GoodMessage(%s) = %v", shown(m), !wantGoodMessage(m))
	}
	want, ok := wantMessageBytes(m)
	b, good := impl.MessageBytes(m)
	if b != want || good != ok {
		t.Errorf("MessageBytes(%s) = %q, %v; want %q, %v", shown(m), b, good, want, ok)
	}
	for _, size := range sizes {
		want, ok := wantCut(m, size)
		if cut, good := impl.CutMessage(m, size); !alikeMessages(cut, want) || good != ok {
			t.Errorf("CutMessage(%s, %d) = %s, %v; want %s, %v", shown(m), size, shown(cut), good, shown(want), ok)
		}
	}
}

func checkMessageBytes(t *testing.T, b string) {
	t.Helper()
	want, ok := wantMessageFrom(b)
	if m, good := impl.ReadMessage(b); !alikeMessages(m, want) || good != ok {
		t.Errorf("ReadMessage(%.200q) = %s, %v; want %s, %v", b, shown(m), good, shown(want), ok)
	}
}

func checkReply(t *testing.T, m impl.Message, code int, answer, authority []impl.Record) {
	t.Helper()
	want, ok := wantReply(m, code, answer, authority)
	if reply, good := impl.ReplyTo(m, code, answer, authority); !alikeMessages(reply, want) || good != ok {
		t.Errorf("ReplyTo(%s, %d) = %s, %v; want %s, %v", shown(m), code, shown(reply), good, shown(want), ok)
	}
}

func checkQuestion(t *testing.T, id int, name string, kind int) {
	t.Helper()
	want, ok := wantQuestion(id, name, kind)
	if m, good := impl.QuestionFor(id, name, kind); !alikeMessages(m, want) || good != ok {
		t.Errorf("QuestionFor(%d, %.80q, %d) = %s, %v; want %s, %v", id, name, kind, shown(m), good, shown(want), ok)
	}
}

func TestMessagesAnswerAtAnyArguments(t *testing.T) {
	r := rand.New(rand.NewSource(15))
	for range 600 {
		m := goodRandomMessage(r)
		other := damagedMessage(r, m)
		b, _ := wantMessageBytes(m)
		checkMessage(t, m, 20+r.Intn(60), 20+r.Intn(581), len(b), len(b)-1, r.Intn(700))
		checkMessage(t, other, 20+r.Intn(581), r.Intn(700))
		checkMessageBytes(t, damaged(r, b))
		checkMessageBytes(t, damaged(r, damaged(r, b)))
		checkMessageBytes(t, randomWire(r))
		question := impl.Message{Id: m.Id, Name: m.Name, Type: m.Type}
		checkReply(t, question, m.Code, m.Answer, m.Authority)
		checkReply(t, question, other.Code, other.Answer, other.Authority)
		checkReply(t, damagedMessage(r, question), m.Code, m.Answer, m.Authority)
		checkReply(t, m, m.Code, nil, nil)
		checkQuestion(t, other.Id, other.Name, other.Type)
	}
}

func TestMessagesAnswerAtWildArguments(t *testing.T) {
	long := strings.Repeat("a.", 1<<18)
	wild := []int{math.MinInt, -1, 0, 1, 5, 12, 20, 255, 256, 600, 65535, 65536, math.MaxInt}
	lists := [][]impl.Record{nil, {}, {{}}, {{Name: long, Type: 16, Data: long}}, make([]impl.Record, 12), make([]impl.Record, 1000)}
	for _, n := range wild {
		for _, s := range []string{"", ".", "a", "\x00", "\xff", long} {
			checkQuestion(t, n, s, n)
			checkQuestion(t, n, s, 1)
			checkQuestion(t, 1, s, n)
			for _, l := range lists {
				m := impl.Message{Id: 1, Reply: true, Code: n, Name: s, Type: 1, Answer: l}
				checkMessage(t, m, n)
				m.Code, m.Id, m.Answer, m.Authority = 0, n, nil, l
				checkMessage(t, m, n, 20, 600)
				m.Reply, m.Authority = false, nil
				checkReply(t, m, 0, l, nil)
				checkReply(t, m, n, nil, l)
			}
		}
	}
	for _, b := range []string{"", long, strings.Repeat("\x00", 1<<20), strings.Repeat("\xff", 1<<20), strings.Repeat("\x80", 1<<16), strings.Repeat("\x01", 5000)} {
		checkMessageBytes(t, b)
		for cut := range 40 {
			checkMessageBytes(t, b[:min(cut, len(b))])
		}
	}
}

// All bytes of a short kind: what stands behind a front that could be one of a message.
func TestSmallBytesOfMessages(t *testing.T) {
	for _, names := range textsOver("\x00\x01a\xc0", 4) {
		for _, behind := range textsOver("\x00\x01\x10", 2) {
			checkMessageBytes(t, messageWire("\x00\x00\x80\x00\x00\x00", names, behind))
			checkMessageBytes(t, messageWire("\x00\x00\x80\x00\x01\x00", names, "\x01"+"\x10\x00\x00\x00\x01"+behind))
			checkMessageBytes(t, messageWire("\x00\x00\x00\x00\x00\x00", names, behind))
		}
	}
}

// freshMessage lies in memory of its own.
func freshMessage(m impl.Message) impl.Message {
	m.Name = strings.Clone(m.Name)
	m.Answer, m.Authority = slices.Clone(m.Answer), slices.Clone(m.Authority)
	for _, l := range [][]impl.Record{m.Answer, m.Authority} {
		for i := range l {
			l[i] = freshRecord(l[i])
		}
	}
	return m
}

func textsOfMessage(m impl.Message) []string {
	return slices.Concat([]string{m.Name}, textsOfRecords(m.Answer), textsOfRecords(m.Authority))
}

// longTexts leaves out single bytes and small numbers: the language itself keeps one of each, whoever makes them.
func longTexts(l []impl.Record) []string {
	return slices.DeleteFunc(textsOfRecords(l), func(s string) bool { return len(s) < 3 })
}

// wantListsApart writes into all of the one list, and behind it, and looks at the other; the texts of both are apart too.
func wantListsApart(t *testing.T, m impl.Message) {
	t.Helper()
	wantApart(t, longTexts(m.Answer), longTexts(m.Authority)...)
	for _, pair := range [][2][]impl.Record{{m.Answer, m.Authority}, {m.Authority, m.Answer}} {
		before := slices.Clone(pair[1][:cap(pair[1])])
		kept := slices.Clone(pair[0][:cap(pair[0])])
		whole := pair[0][:cap(pair[0])]
		for i := range whole {
			whole[i] = impl.Record{Name: "written"}
		}
		if !slices.Equal(pair[1][:cap(pair[1])], before) {
			t.Errorf("the two lists of one answer share memory: %s", shown(m))
		}
		copy(whole, kept)
	}
}

// written is a message whose lists are overwritten up to their ends in memory.
func written(m impl.Message) {
	for _, l := range [][]impl.Record{m.Answer, m.Authority} {
		whole := l[:cap(l)]
		for i := range whole {
			whole[i] = impl.Record{Name: "written"}
		}
	}
}

func TestMessageAnswersShareNoMemory(t *testing.T) {
	r := rand.New(rand.NewSource(16))
	for range 200 {
		m := freshMessage(goodRandomMessage(r))
		before := freshMessage(m)
		b, _ := impl.MessageBytes(m)
		wantApart(t, []string{b}, textsOfMessage(m)...)
		read, _ := impl.ReadMessage(b)
		wantApart(t, textsOfMessage(read), b)
		question, _ := impl.QuestionFor(m.Id, m.Name, m.Type)
		wantApart(t, textsOfMessage(question), m.Name)
		asked := impl.Message{Id: m.Id, Name: m.Name, Type: m.Type}
		answers := []impl.Message{read, question}
		for _, size := range []int{600, 300, 100} {
			cut, _ := impl.CutMessage(m, size)
			answers = append(answers, cut)
		}
		reply, _ := impl.ReplyTo(asked, 0, m.Answer, m.Authority)
		// One list handed in as both is two in the answer.
		twice, _ := impl.ReplyTo(asked, 0, m.Answer, m.Answer)
		for _, answer := range append(answers, reply, twice) {
			wantApart(t, textsOfMessage(answer), textsOfMessage(m)...)
			wantListsApart(t, answer)
			written(answer)
		}
		if !alikeMessages(m, before) {
			t.Errorf("an answer shares memory with %s", shown(before))
		}
	}
}

func TestAMessageWithOneListTwice(t *testing.T) {
	l := []impl.Record{freshRecord(noteOf("a.b", "some text")), freshRecord(noteOf("c.b", "other text"))}
	m := replyOf(l, l)
	cut, ok := impl.CutMessage(m, 600)
	if !ok || !alikeMessages(cut, m) {
		t.Errorf("%s, %v", shown(cut), ok)
	}
	wantListsApart(t, cut)
	back, _ := impl.ReadMessage(wantBack(t, m))
	wantListsApart(t, back)
}

// withSpareRecords puts records behind the list's length, of which one is not good.
func withSpareRecords(l []impl.Record) []impl.Record {
	whole := append(slices.Clone(l), noteOf("spare", "x"), impl.Record{Name: "bad..spare"})
	return whole[:len(l)]
}

func TestNoMessageIsWrittenInto(t *testing.T) {
	r := rand.New(rand.NewSource(17))
	for i := range 300 {
		m := goodRandomMessage(r)
		if i%3 == 0 {
			m = damagedMessage(r, m)
		}
		m.Answer, m.Authority = withSpareRecords(m.Answer), withSpareRecords(m.Authority)
		answer, authority := m.Answer[:cap(m.Answer)], m.Authority[:cap(m.Authority)]
		answerBefore, authorityBefore := slices.Clone(answer), slices.Clone(authority)
		checkMessage(t, m, 20, 40, 100, 200, 400, 600)
		checkReply(t, impl.Message{Id: 1, Name: "a", Type: 1}, m.Code, m.Answer, m.Authority)
		checkReply(t, m, 0, m.Authority, m.Answer)
		if !slices.Equal(answer, answerBefore) || !slices.Equal(authority, authorityBefore) {
			t.Errorf("a message was written into: %s", shown(m))
		}
	}
}

// Records behind the list's length stay out of what is cut off, and of what is left.
func TestNothingIsHandedOutFromBehindAList(t *testing.T) {
	m := replyOf(slices.Concat(notesOf("a", 2), notesOf("b", 2)), nil)
	cut, _ := impl.CutMessage(m, len(wantBack(t, m))-1)
	for _, r := range cut.Answer[:cap(cut.Answer)][len(cut.Answer):] {
		if r != (impl.Record{}) {
			t.Errorf("behind what is left stands %s", shown(r))
		}
	}
}
