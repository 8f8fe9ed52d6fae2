package tests

import (
	"fmt"
	"math"
	"math/rand"
	"slices"
	"strings"
	"testing"

	"loop.example/g00300/impl"
)

// questionOf and replyOf are good; a test changes what it asks about.
func questionOf() impl.Message {
	return impl.Message{Id: 7, Name: "a.ex.com", Type: 1}
}

func replyOf(answer, authority []impl.Record) impl.Message {
	return impl.Message{Id: 7, Reply: true, Name: "a.ex.com", Type: 1, Answer: answer, Authority: authority}
}

func noteOf(name, note string) impl.Record {
	return impl.Record{Name: name, Type: 16, Ttl: 60, Data: note}
}

// notesOf is a set of so many records, each told in 7 bytes beside its name.
func notesOf(name string, many int) []impl.Record {
	var l []impl.Record
	for i := range many {
		l = append(l, noteOf(name, string([]byte{'a' + byte(i)})))
	}
	return l
}

// namesOnly are records of these names; what they tell is as short as can be.
func namesOnly(names []string) []impl.Record {
	var l []impl.Record
	for _, name := range names {
		l = append(l, impl.Record{Name: name, Type: 16})
	}
	return l
}

// messageWire puts the size of the names ahead of them.
func messageWire(front, names, behind string) string {
	return front + string([]byte{byte(len(names) / 256), byte(len(names) % 256)}) + names + behind
}

func wantBadMessage(t *testing.T, m impl.Message) {
	t.Helper()
	if impl.GoodMessage(m) {
		t.Errorf("GoodMessage(%s)", shown(m))
	}
	if b, ok := impl.MessageBytes(m); b != "" || ok {
		t.Errorf("MessageBytes(%s) = %.80q, %v", shown(m), b, ok)
	}
	for _, size := range []int{20, 600} {
		wantNotCut(t, m, size)
	}
	wantNoReply(t, m, 0, nil, nil)
}

// Promise 4: a message comes back from its bytes.
func wantMessageBack(t *testing.T, m impl.Message, want string) {
	t.Helper()
	if !impl.GoodMessage(m) {
		t.Errorf("GoodMessage(%s) is false", shown(m))
	}
	if b, ok := impl.MessageBytes(m); b != want || !ok {
		t.Errorf("MessageBytes(%s) = %q, %v; want %q", shown(m), b, ok, want)
	}
	if back, ok := impl.ReadMessage(want); !alikeMessages(back, m) || !ok {
		t.Errorf("ReadMessage(%q) = %s, %v; want %s", want, shown(back), ok, shown(m))
	}
}

// wantBack is for messages whose bytes the model tells.
func wantBack(t *testing.T, m impl.Message) string {
	t.Helper()
	b, ok := wantMessageBytes(m)
	if !ok {
		t.Fatalf("the model tells no bytes of %s", shown(m))
	}
	wantMessageBack(t, m, b)
	return b
}

func wantNoMessage(t *testing.T, b string) {
	t.Helper()
	if m, ok := impl.ReadMessage(b); !alikeMessages(m, impl.Message{}) || ok {
		t.Errorf("ReadMessage(%.200q) = %s, %v", b, shown(m), ok)
	}
}

func wantNotCut(t *testing.T, m impl.Message, size int) {
	t.Helper()
	if cut, ok := impl.CutMessage(m, size); !alikeMessages(cut, impl.Message{}) || ok {
		t.Errorf("CutMessage(%s, %d) = %s, %v", shown(m), size, shown(cut), ok)
	}
}

func wantNoReply(t *testing.T, m impl.Message, code int, answer, authority []impl.Record) {
	t.Helper()
	if reply, ok := impl.ReplyTo(m, code, answer, authority); !alikeMessages(reply, impl.Message{}) || ok {
		t.Errorf("ReplyTo(%s, %d, %s, %s) = %s, %v", shown(m), code, shown(answer), shown(authority), shown(reply), ok)
	}
}

func wantNoQuestion(t *testing.T, id int, name string, kind int) {
	t.Helper()
	if m, ok := impl.QuestionFor(id, name, kind); !alikeMessages(m, impl.Message{}) || ok {
		t.Errorf("QuestionFor(%d, %.80q, %d) = %s, %v", id, name, kind, shown(m), ok)
	}
}

func TestMessageConstants(t *testing.T) {
	if impl.MaxRecords != 12 || impl.CodeOk != 0 || impl.CodeForm != 1 || impl.CodeName != 3 || impl.CodeRefused != 5 {
		t.Error("a limit or a code has another number")
	}
}

func TestBytesOfAQuestion(t *testing.T) {
	wantMessageBack(t, questionOf(), "\x00\x07\x00\x00\x00\x00\x00\x0a\x01a\x02ex\x03com\x00\x01")
	wantMessageBack(t, impl.Message{Id: 258, Type: 16}, "\x01\x02\x00\x00\x00\x00\x00\x01\x00\x10")
	wantMessageBack(t, impl.Message{Id: 65535, Name: "*", Type: 15}, "\xff\xff\x00\x00\x00\x00\x00\x03\x01*\x00\x0f")
}

func TestBytesOfAReply(t *testing.T) {
	exchange := impl.Record{Name: "ex.com", Type: 15, Ttl: 70000, Data: "10 mx.ex.com"}
	host := impl.Record{Name: "b.ex.com", Type: 2, Ttl: 5, Data: "ns"}
	names := "\x01a\x02ex\x03com\x00" + "\xc0\x02" + "\x01b\xc0\x02"
	told := "\x0f\x01\x11\x70\x0d\x00\x0a\x02mx\x02ex\x03com\x00" + "\x02\x00\x00\x05\x04\x02ns\x00"
	m := replyOf([]impl.Record{exchange}, []impl.Record{host})
	wantMessageBack(t, m, "\x00\x07\x80\x00\x01\x01\x00\x10"+names+"\x01"+told)
	m.Cut, m.Code = true, 3
	wantMessageBack(t, m, "\x00\x07\x81\x03\x01\x01\x00\x10"+names+"\x01"+told)
	m.Answer, m.Authority = []impl.Record{exchange, host}, nil
	wantMessageBack(t, m, "\x00\x07\x81\x03\x02\x00\x00\x10"+names+"\x01"+told)
	m.Answer, m.Authority = nil, []impl.Record{exchange, host}
	wantMessageBack(t, m, "\x00\x07\x81\x03\x00\x02\x00\x10"+names+"\x01"+told)
	m.Authority = nil
	wantMessageBack(t, m, "\x00\x07\x81\x03\x00\x00\x00\x0a\x01a\x02ex\x03com\x00\x01")
}

func TestIdsOfMessages(t *testing.T) {
	for _, m := range []impl.Message{questionOf(), replyOf(nil, nil)} {
		for _, id := range []int{0, 1, 255, 256, 32768, 65534, 65535} {
			m.Id = id
			wantBack(t, m)
		}
		for _, id := range []int{-1, 65536, 65543, -65529, 1 << 32, math.MinInt, math.MaxInt} {
			m.Id = id
			wantBadMessage(t, m)
			wantNoQuestion(t, id, "a", 1)
		}
	}
}

func TestCodesOfMessages(t *testing.T) {
	m := replyOf(nil, nil)
	for code := -2; code <= 300; code++ {
		m.Code = code
		b := "\x00\x07\x80" + string([]byte{byte(code)}) + "\x00\x00\x00\x0a\x01a\x02ex\x03com\x00\x01"
		if slices.Contains(fourCodes, code) {
			wantMessageBack(t, m, b)
			continue
		}
		wantBadMessage(t, m)
		wantNoReply(t, questionOf(), code, nil, nil)
		if code > 5 && code < 256 {
			wantNoMessage(t, b)
		}
	}
	for _, code := range []int{2, 4} {
		wantNoMessage(t, "\x00\x07\x80"+string([]byte{byte(code)})+"\x00\x00\x00\x0a\x01a\x02ex\x03com\x00\x01")
	}
}

func TestNamesOfMessages(t *testing.T) {
	for _, name := range goodNames() {
		for _, m := range []impl.Message{questionOf(), replyOf(nil, nil), replyOf([]impl.Record{noteOf(name, "")}, []impl.Record{noteOf(name, "x")})} {
			m.Name = name
			wantBack(t, m)
		}
		if m, ok := impl.QuestionFor(9, name, 2); !alikeMessages(m, impl.Message{Id: 9, Name: name, Type: 2}) || !ok {
			t.Errorf("QuestionFor(9, %q, 2) = %s, %v", name, shown(m), ok)
		}
	}
	for _, name := range badNames() {
		for _, m := range []impl.Message{questionOf(), replyOf(nil, nil)} {
			m.Name = name
			wantBadMessage(t, m)
		}
		wantNoQuestion(t, 9, name, 2)
	}
}

func TestTypesOfMessages(t *testing.T) {
	for kind := -2; kind <= 300; kind++ {
		for _, m := range []impl.Message{questionOf(), replyOf(nil, nil)} {
			m.Type = kind
			if slices.Contains(sixTypes, kind) {
				wantBack(t, m)
				continue
			}
			wantBadMessage(t, m)
			wantNoQuestion(t, 9, "a", kind)
			if kind >= 0 && kind < 256 {
				wantNoMessage(t, "\x00\x07\x00\x00\x00\x00\x00\x03\x01a\x00"+string([]byte{byte(kind)}))
			}
		}
	}
}

func TestDataOfEachTypeInMessages(t *testing.T) {
	for kind, pairs := range goodData() {
		for _, pair := range pairs {
			r := recordOf(kind, pair[0])
			b := wantBack(t, replyOf([]impl.Record{r}, nil))
			if !strings.HasSuffix(b, "\x00\x00\x3c"+string([]byte{byte(len(pair[1]))})+pair[1]) {
				t.Errorf("a message with %s ends otherwise: %q", shown(r), b)
			}
			wantBack(t, replyOf([]impl.Record{noteOf("b", "x")}, []impl.Record{r, r}))
		}
	}
}

func TestTtlsInMessages(t *testing.T) {
	for _, ttl := range []int{0, 1, 255, 256, 65535, 65536, 99999, 100000} {
		r := noteOf("b", "x")
		r.Ttl = ttl
		wantBack(t, replyOf([]impl.Record{r}, nil))
		wantBack(t, replyOf(nil, []impl.Record{r}))
	}
	one := "\x00\x07\x80\x00\x01\x00\x00\x02\x00\x00\x01\x10"
	wantMessageBack(t, impl.Message{Id: 7, Reply: true, Type: 1, Answer: []impl.Record{{Type: 16, Ttl: 100000}}}, one+"\x01\x86\xa0\x01\x00")
	wantNoMessage(t, one+"\x01\x86\xa1\x01\x00")
	wantNoMessage(t, one+"\xff\xff\xff\x01\x00")
}

func TestHowManyRecordsMessagesHave(t *testing.T) {
	for many := range 13 {
		wantBack(t, replyOf(manyOfOne(many), nil))
		wantBack(t, replyOf(nil, manyRecords(many)))
		wantBack(t, replyOf(manyRecords(many), manyOfOne(12)))
		wantBack(t, replyOf(manyOfOne(12), manyRecords(many)))
	}
	for _, many := range []int{13, 14, 255, 256, 268} {
		for _, l := range [][]impl.Record{manyOfOne(many), make([]impl.Record, many)} {
			wantBadMessage(t, replyOf(l, nil))
			wantBadMessage(t, replyOf(nil, l))
			wantBadMessage(t, replyOf(l, l))
			wantNoReply(t, questionOf(), 0, l, nil)
			wantNoReply(t, questionOf(), 0, nil, l)
		}
	}
}

func TestRecordsThatAreNotGoodInMessages(t *testing.T) {
	good := noteOf("b", "x")
	bad := []impl.Record{{}, {Name: "a", Type: 3}, noteOf("B", "x"), noteOf("b", "\n"), recordOf(1, "1.2.3"), {Name: "b", Type: 16, Ttl: -1}, {Name: "b", Type: 16, Ttl: 100001}}
	for kind, texts := range badData() {
		for _, text := range texts {
			bad = append(bad, recordOf(kind, text))
		}
	}
	for _, r := range bad {
		for _, l := range [][]impl.Record{{r}, {good, r}, {r, good}, {good, r, good}} {
			wantBadMessage(t, replyOf(l, nil))
			wantBadMessage(t, replyOf(nil, l))
			wantBadMessage(t, replyOf([]impl.Record{good}, l))
			wantBadMessage(t, replyOf(l, []impl.Record{good}))
			wantNoReply(t, questionOf(), 0, l, []impl.Record{good})
			wantNoReply(t, questionOf(), 0, []impl.Record{good}, l)
		}
	}
}

func TestWhatAQuestionMayNotHave(t *testing.T) {
	m := questionOf()
	m.Answer, m.Authority = []impl.Record{}, []impl.Record{}
	wantBack(t, m)
	m.Cut = true
	wantBadMessage(t, m)
	for _, code := range fourCodes[1:] {
		m = questionOf()
		m.Code = code
		wantBadMessage(t, m)
	}
	m = questionOf()
	m.Answer = []impl.Record{noteOf("b", "x")}
	wantBadMessage(t, m)
	m.Answer, m.Authority = nil, m.Answer
	wantBadMessage(t, m)
	wantNoMessage(t, "\x00\x07\x01\x00\x00\x00\x00\x01\x00\x01")
	wantNoMessage(t, "\x00\x07\x00\x03\x00\x00\x00\x01\x00\x01")
	wantNoMessage(t, "\x00\x07\x00\x00\x01\x00\x00\x02\x00\x00\x01\x10\x00\x00\x00\x01\x00")
	wantNoMessage(t, "\x00\x07\x00\x00\x00\x01\x00\x02\x00\x00\x01\x10\x00\x00\x00\x01\x00")
}

func TestListsThatAreNilOrEmpty(t *testing.T) {
	none := []impl.Record{}
	for _, m := range []impl.Message{replyOf(nil, nil), replyOf(none, nil), replyOf(nil, none), replyOf(none, none)} {
		wantBack(t, m)
		if cut, ok := impl.CutMessage(m, 20); !alikeMessages(cut, m) || !ok {
			t.Errorf("CutMessage(%s, 20) = %s, %v", shown(m), shown(cut), ok)
		}
		if reply, ok := impl.ReplyTo(questionOf(), 0, m.Answer, m.Authority); !alikeMessages(reply, m) || !ok {
			t.Errorf("ReplyTo = %s, %v", shown(reply), ok)
		}
	}
}

// More than 20 names, and names that have more bytes than MaxWire before they are packed.
func TestAllNamesArePacked(t *testing.T) {
	m := replyOf(manyRecords(12), manyRecords(24)[12:])
	b := wantBack(t, m)
	if len(b) != 8+10+8+23*6+1+24*9 {
		t.Errorf("25 names: %d bytes", len(b))
	}
	var long []string
	for i := range 24 {
		long = append(long, fmt.Sprintf("%c.%s", 'a'+i, name60[2:]))
	}
	m = replyOf(namesOnly(long[:12]), namesOnly(long[12:]))
	m.Name = name60
	b = wantBack(t, m)
	if size := int(b[6])*256 + int(b[7]); size != 62+2+19+2+23*4 {
		t.Errorf("names of 25 times 60 bytes have %d", size)
	}
	wantBack(t, replyOf(namesOnly(slices.Repeat([]string{name60}, 12)), namesOnly(slices.Repeat([]string{name60}, 12))))
}

// Names that just have MaxWire bytes when they are packed, and names that have more: a message has no such limit.
func TestNamesOfMaxWireBytes(t *testing.T) {
	names := twentyOf30()
	m := replyOf(namesOnly(names[1:13]), namesOnly(names[13:]))
	m.Name = names[0]
	b := wantBack(t, m)
	if b[6:8] != "\x02\x58" || len(b) != 8+600+1+19*6 {
		t.Errorf("the names have %x bytes, all of it %d", b[6:8], len(b))
	}
	packed := ""
	for _, name := range names {
		packed += wantPlain(name)
	}
	front, behind := "\x00\x07\x80\x00\x0c\x08", "\x01"+strings.Repeat("\x10\x00\x00\x00\x01\x00", 20)
	more := map[string]string{"": "\x00", names[0]: "\xc0\x00", names[19]: "\xc2\x3a", "a": "\x01a\x00", "z." + names[5]: "\x01z\xc0\x96"}
	for name, told := range more {
		over := m
		over.Authority = append(slices.Clone(m.Authority), namesOnly([]string{name})...)
		wantMessageBack(t, over, messageWire(front, packed+told, behind))
		wantNoMessage(t, messageWire(front, packed+told+"\x00", behind))
	}
}

// A name is pointed to however far ahead it stands, up to the last place at which one can.
func TestNamesToldLongBefore(t *testing.T) {
	names := twentyOf30()
	for i := range 12 {
		m := replyOf(namesOnly(names[1:13]), namesOnly([]string{names[i], "b." + names[12-i], names[i][21:]}))
		m.Name = names[0]
		b := wantBack(t, m)
		pointers := pointerTo(30*i) + "\x01b" + pointerTo(30*(12-i)) + pointerTo(30*i+21)
		if b[8+13*30:8+13*30+8] != pointers {
			t.Errorf("%d: %q", i, b[8+13*30:])
		}
	}
}

// someMessages have bytes of each kind: counts, pointers, data.
func someMessages() []impl.Message {
	two := []impl.Record{recordOf(15, "10 mx.ex.com"), {Name: "b.ex.com", Type: 1, Ttl: 100000, Data: "1.2.3.4"}}
	return []impl.Message{
		questionOf(), {Type: 6}, replyOf(nil, nil), replyOf(two, nil), replyOf(nil, two), replyOf(two, two),
		{Id: 65535, Reply: true, Cut: true, Code: 5, Type: 2, Answer: []impl.Record{noteOf("", "some text")}, Authority: []impl.Record{{Name: "a", Type: 6, Data: "1"}}},
		replyOf(manyOfOne(12), manyRecords(12)),
	}
}

func TestBytesThatEndTooEarlyOrLate(t *testing.T) {
	wantNoMessage(t, "")
	for _, m := range someMessages() {
		b := wantBack(t, m)
		for end := range len(b) {
			wantNoMessage(t, b[:end])
			checkMessageBytes(t, b[:end]+"\x00")
			checkMessageBytes(t, b[end:])
		}
		for _, more := range []string{"\x00", "\x01", "\x10\x00\x00\x00\x01\x00", "\xff", b} {
			wantNoMessage(t, b+more)
		}
		wantNoMessage(t, "\x00"+b)
	}
}

func TestEachByteChanged(t *testing.T) {
	for _, m := range someMessages()[:7] {
		b := wantBack(t, m)
		for at := range len(b) {
			for value := range 256 {
				checkMessageBytes(t, b[:at]+string([]byte{byte(value)})+b[at+1:])
			}
		}
	}
}

func TestMarksInBytes(t *testing.T) {
	behind := "\x00\x00\x00\x00\x01\x00\x01"
	for marks := range 256 {
		b := "\x00\x07" + string([]byte{byte(marks)}) + behind
		m := impl.Message{Id: 7, Reply: marks >= 128, Cut: marks == 129, Type: 1}
		if marks == 0 || marks == 128 || marks == 129 {
			wantMessageBack(t, m, b)
		} else {
			wantNoMessage(t, b)
		}
	}
}

func TestCountsInBytes(t *testing.T) {
	one := "\x10\x00\x00\x00\x01\x00"
	for _, many := range []int{0, 1, 11, 12, 13, 24, 255} {
		names, behind := strings.Repeat("\x00", 1+many), "\x01"+strings.Repeat(one, many)
		count := string([]byte{byte(many)})
		first := messageWire("\x00\x07\x80\x00"+count+"\x00", names, behind)
		second := messageWire("\x00\x07\x80\x00\x00"+count, names, behind)
		l := namesOnly(make([]string, many))
		if many <= 12 {
			wantMessageBack(t, impl.Message{Id: 7, Reply: true, Type: 1, Answer: l}, first)
			wantMessageBack(t, impl.Message{Id: 7, Reply: true, Type: 1, Authority: l}, second)
		} else {
			wantNoMessage(t, first)
			wantNoMessage(t, second)
		}
	}
	three := messageWire("\x00\x07\x80\x00\x02\x01", "\x00\x00\x00\x00", "\x01"+one+one+one)
	wantMessageBack(t, impl.Message{Id: 7, Reply: true, Type: 1, Answer: namesOnly([]string{"", ""}), Authority: namesOnly([]string{""})}, three)
	for _, counts := range []string{"\x02\x02", "\x03\x01", "\x01\x01", "\x02\x00", "\x04\x00", "\x00\x00", "\xff\xff"} {
		wantNoMessage(t, "\x00\x07\x80\x00"+counts+three[6:])
	}
}

func TestSizeOfNamesInBytes(t *testing.T) {
	for _, m := range someMessages() {
		b := wantBack(t, m)
		size := int(b[6])*256 + int(b[7])
		for _, other := range []int{size - 1, size + 1, 0, len(b), 600, 601, 65535} {
			wantNoMessage(t, b[:6]+string([]byte{byte(other / 256), byte(other % 256)})+b[8:])
		}
		for _, more := range []string{"\x00", "\x01a\x00", "\xc0\x00", "\xff"} {
			wantNoMessage(t, messageWire(b[:6], b[8:8+size]+more, b[8+size:]))
		}
		wantNoMessage(t, messageWire(b[:6], b[8:8+size-1], b[8+size:]))
	}
}

func TestNamesPackedOtherwise(t *testing.T) {
	front, behind := "\x00\x07\x80\x00\x02\x00", "\x01"+strings.Repeat("\x10\x00\x00\x00\x01\x00", 2)
	m := impl.Message{Id: 7, Reply: true, Name: "a.b", Type: 1, Answer: namesOnly([]string{"a.b", "c.b"})}
	wantMessageBack(t, m, messageWire(front, "\x01a\x01b\x00\xc0\x00\x01c\xc0\x02", behind))
	others := []string{
		"\x01a\x01b\x00\x01a\x01b\x00\x01c\x01b\x00", "\x01a\x01b\x00\xc0\x00\x01c\x01b\x00", "\x01a\x01b\x00\x01a\xc0\x02\x01c\xc0\x02",
		"\x01a\x01b\x00\x01a\x01b\xc0\x04\x01c\xc0\x02", "\x01A\x01b\x00\xc0\x00\x01c\xc0\x02", "\x01a\x01b\x00\xc0\x00\x01C\xc0\x02",
		"\x01a\x01b\x00\x01a\x01b\x00\x01c\xc0\x07", "\x01a\x01b\x00\xc0\x00\x01c\xc0\x08", "\x01a\x01b\x00\xc0\x05\x01c\xc0\x02",
		"\x01a\x01b\x00\xc0\x00\x01c\xc1\x02", "\x01a\x01b\x00\xc0\x00\x01c\xc0\x01", "\x01a\x01b\x00\xc0\x00\x03c.b\x00",
	}
	for _, names := range others {
		wantNoMessage(t, messageWire(front, names, behind))
	}
	m.Answer[1].Name = "a.b"
	wantMessageBack(t, m, messageWire(front, "\x01a\x01b\x00\xc0\x00\xc0\x00", behind))
	wantNoMessage(t, messageWire(front, "\x01a\x01b\x00\xc0\x00\xc0\x05", behind))
}

func TestDataThatIsNotThatOfItsType(t *testing.T) {
	front := "\x00\x07\x80\x00\x01\x00\x00\x02\x00\x00\x01"
	bad := map[string][]string{
		"\x01": {"", "\x01\x02\x03", "\x01\x02\x03\x04\x05"},
		"\x02": {"", "\x00", "\x01a", "\x01A\x00", "\x01*\x00", "\x01a\x00\x00", "\xc0\x00"},
		"\x05": {"", "\x00", "\x01a", "\x01A\x00", "\x01*\x00", "\x01a\x00\x00", "\xc0\x00"},
		"\x06": {"", "\x01\x02\x03", "\x01\x02\x03\x04\x05"},
		"\x0f": {"", "\x00", "\x00\x01", "\x00\x01\x00", "\x00\x01\x01a", "\x00\x01\x01a\x00\x00", "\x00\x01\x01A\x00"},
		"\x10": {"", "\x01", "\x00a", "\x02a", "\x01\n", "\x01\x7f", "\x1f" + strings.Repeat("x", 31)},
		"\x03": {"", "\x00", "\x01a\x00", "\x01\x02\x03\x04"},
	}
	for kind, all := range bad {
		for _, data := range all {
			wantNoMessage(t, front+kind+"\x00\x00\x00"+string([]byte{byte(len(data))})+data)
		}
	}
	wantNoMessage(t, front+"\x01\x00\x00\x00\xff"+"\x01\x02\x03\x04")
	wantNoMessage(t, front+"\x01\x00\x00\x00\x05"+"\x01\x02\x03\x04")
	wantNoMessage(t, front+"\x01\x00\x00\x00\x03"+"\x01\x02\x03\x04")
}

func TestQuestionFor(t *testing.T) {
	for _, id := range []int{0, 1, 65535} {
		for _, kind := range sixTypes {
			want := impl.Message{Id: id, Name: "a.ex.com", Type: kind}
			if m, ok := impl.QuestionFor(id, "a.ex.com", kind); !alikeMessages(m, want) || !ok {
				t.Errorf("QuestionFor(%d, a.ex.com, %d) = %s, %v", id, kind, shown(m), ok)
			}
		}
	}
	wantNoQuestion(t, 65536, "A", 3)
}

func TestReplyTo(t *testing.T) {
	answer, authority := manyOfOne(12), manyRecords(12)
	question := impl.Message{Id: 65535, Name: "b", Type: 15}
	for _, code := range fourCodes {
		want := impl.Message{Id: 65535, Reply: true, Code: code, Name: "b", Type: 15, Answer: answer, Authority: authority}
		if m, ok := impl.ReplyTo(question, code, answer, authority); !alikeMessages(m, want) || !ok {
			t.Errorf("ReplyTo = %s, %v", shown(m), ok)
		}
		want.Authority = nil
		if m, ok := impl.ReplyTo(question, code, answer, nil); !alikeMessages(m, want) || !ok {
			t.Errorf("ReplyTo = %s, %v", shown(m), ok)
		}
		want.Answer, want.Authority = nil, answer
		if m, ok := impl.ReplyTo(question, code, nil, answer); !alikeMessages(m, want) || !ok {
			t.Errorf("ReplyTo = %s, %v", shown(m), ok)
		}
	}
	question.Reply = true
	wantNoReply(t, question, 0, answer, nil)
	question.Cut = true
	wantNoReply(t, question, 0, nil, nil)
	reply, _ := impl.ReplyTo(questionOf(), 0, answer, nil)
	wantNoReply(t, reply, 0, answer, nil)
}

// A Reply to a question is one whose names have as many bytes as they like.
func TestReplyToWithLongNames(t *testing.T) {
	names := twentyOf30()
	want := replyOf(namesOnly(names[:10]), namesOnly(names[10:]))
	m, ok := impl.ReplyTo(questionOf(), 0, want.Answer, want.Authority)
	if !alikeMessages(m, want) || !ok {
		t.Errorf("ReplyTo = %s, %v", shown(m), ok)
	}
	wantBack(t, m)
}

// Promise 4: what is cut has its size, and whole sets: none of it less than the size asks for.
func wantCutTo(t *testing.T, m impl.Message, size, answers, authority int) {
	t.Helper()
	want := m
	want.Answer, want.Authority = m.Answer[:answers], m.Authority[:authority]
	want.Cut = m.Cut || answers < len(m.Answer) || authority < len(m.Authority)
	cut, ok := impl.CutMessage(m, size)
	if !alikeMessages(cut, want) || !ok {
		t.Errorf("CutMessage(%s, %d) = %s, %v; want %d and %d records", shown(m), size, shown(cut), ok, answers, authority)
	}
	if b, ok := impl.MessageBytes(cut); len(b) > size || !ok {
		t.Errorf("what is cut to %d has %d bytes, %v", size, len(b), ok)
	}
}

func sizeOf(t *testing.T, m impl.Message, answers, authority int) int {
	t.Helper()
	m.Answer, m.Authority = m.Answer[:answers], m.Authority[:authority]
	return len(wantBack(t, m))
}

func TestTheLastSetGoesFirst(t *testing.T) {
	answer := slices.Concat(notesOf("b", 1), notesOf("a.ex.com", 3), notesOf("c", 2))
	authority := slices.Concat(notesOf("d", 2), notesOf("e", 1), notesOf("b", 3))
	m := replyOf(answer, authority)
	left := [][2]int{{6, 6}, {6, 3}, {6, 2}, {6, 0}, {4, 0}, {1, 0}, {0, 0}}
	for i, l := range left {
		size := max(20, sizeOf(t, m, l[0], l[1]))
		wantCutTo(t, m, size, l[0], l[1])
		if i+1 < len(left) {
			wantCutTo(t, m, size-1, left[i+1][0], left[i+1][1])
		}
	}
	wantCutTo(t, m, 600, 6, 6)
}

func TestSetsThatShareANameOrAType(t *testing.T) {
	two := []impl.Record{recordOf(1, "1.2.3.4"), recordOf(1, "1.2.3.5"), recordOf(16, "x"), recordOf(16, "y")}
	m := replyOf(two, nil)
	wantCutTo(t, m, sizeOf(t, m, 4, 0)-1, 2, 0)
	wantCutTo(t, m, sizeOf(t, m, 2, 0), 2, 0)
	wantCutTo(t, m, sizeOf(t, m, 2, 0)-1, 0, 0)
	m = replyOf(nil, slices.Concat(notesOf("a", 2), notesOf("b", 2)))
	wantCutTo(t, m, sizeOf(t, m, 0, 4)-1, 0, 2)
	m = replyOf(notesOf("a", 3), notesOf("a", 3))
	wantCutTo(t, m, sizeOf(t, m, 3, 3)-1, 3, 0)
	other := noteOf("a", "x")
	other.Ttl = 61
	m = replyOf(append(notesOf("b", 1), noteOf("a", "x"), other), nil)
	wantCutTo(t, m, sizeOf(t, m, 3, 0)-1, 1, 0)
}

// Records of one Name and Type that are apart in the list: those at its end are the last set.
func TestSetsThatAreApart(t *testing.T) {
	m := replyOf(slices.Concat(notesOf("a", 2), notesOf("b", 1), notesOf("a", 2)), nil)
	wantCutTo(t, m, sizeOf(t, m, 5, 0)-1, 3, 0)
	wantCutTo(t, m, sizeOf(t, m, 3, 0)-1, 2, 0)
	wantCutTo(t, m, sizeOf(t, m, 2, 0)-1, 0, 0)
	m = replyOf(nil, []impl.Record{recordOf(1, "1.2.3.4"), recordOf(16, "x"), recordOf(1, "1.2.3.4")})
	wantCutTo(t, m, sizeOf(t, m, 0, 3)-1, 0, 2)
}

func TestSizesThatAMessageIsCutTo(t *testing.T) {
	small := impl.Message{Reply: true, Type: 1, Answer: []impl.Record{{Type: 16, Data: "abc"}}}
	if b := wantBack(t, small); len(b) != 20 {
		t.Fatalf("%d bytes", len(b))
	}
	wantCutTo(t, small, 20, 1, 0)
	wantCutTo(t, small, 600, 1, 0)
	for _, size := range []int{19, 601, 0, -20, 18, 10, 1000, math.MinInt, math.MaxInt} {
		wantNotCut(t, small, size)
		wantNotCut(t, replyOf(nil, nil), size)
	}
	small.Answer[0].Data = "abcd"
	wantCutTo(t, small, 21, 1, 0)
	wantCutTo(t, small, 20, 0, 0)
}

// A message of just 600 bytes, and one of 601.
func TestCutAtMaxWire(t *testing.T) {
	full := strings.Repeat("y", 30)
	answer := slices.Repeat([]impl.Record{noteOf("ex.com", full)}, 12)
	authority := append(slices.Repeat([]impl.Record{noteOf("", full)}, 3), noteOf("x", "12345"))
	m := replyOf(answer, authority)
	if size := len(wantBack(t, m)); size != 600 {
		t.Fatalf("%d bytes", size)
	}
	wantCutTo(t, m, 600, 12, 4)
	wantCutTo(t, m, 599, 12, 3)
	m.Authority[3].Data = "123456"
	if size := len(wantBack(t, m)); size != 601 {
		t.Fatalf("%d bytes", size)
	}
	wantCutTo(t, m, 600, 12, 3)
	wantNotCut(t, m, 601)
}

func TestMessagesThatDoNotFitWithoutRecords(t *testing.T) {
	m := replyOf(notesOf("b", 2), notesOf("c", 2))
	m.Name = name60
	bare := 8 + 62 + 1
	wantCutTo(t, m, bare, 0, 0)
	for size := 19; size < bare; size++ {
		wantNotCut(t, m, size)
	}
	m.Answer, m.Authority = nil, nil
	wantCutTo(t, m, bare, 0, 0)
	wantNotCut(t, m, bare-1)
}

func TestMessagesThatAreCutAlready(t *testing.T) {
	m := replyOf(notesOf("b", 2), notesOf("c", 2))
	m.Cut, m.Code = true, 3
	wantCutTo(t, m, 600, 2, 2)
	wantCutTo(t, m, sizeOf(t, m, 2, 2)-1, 2, 0)
	wantCutTo(t, m, 20, 0, 0)
}

func TestQuestionsAreNotCut(t *testing.T) {
	for _, size := range []int{19, 20, 100, 600, 601} {
		wantNotCut(t, questionOf(), size)
	}
	for _, m := range someMessages() {
		m.Id = -1
		wantNotCut(t, m, 600)
	}
}

// Names of more than MaxWire bytes are above every size: sets go until there are fewer.
func TestCutOfLongNames(t *testing.T) {
	names := twentyOf30()
	m := replyOf(namesOnly(names[:12]), namesOnly(names[12:]))
	m.Name = ""
	if b := wantBack(t, m); len(b) != 8+601+1+20*6 {
		t.Fatalf("%d bytes", len(b))
	}
	wantCutTo(t, m, 600, 12, 4)
	wantCutTo(t, m, 10+36, 1, 0)
	wantCutTo(t, m, 10+36-1, 0, 0)
	m.Answer, m.Authority = namesOnly(names[:12]), slices.Concat(namesOnly(names[12:19]), namesOnly([]string{"a", names[19], names[19]}))
	wantCutTo(t, m, 600, 12, 4)
}

func TestMessagesComeBack(t *testing.T) {
	r := rand.New(rand.NewSource(12))
	for range 2000 {
		m := goodRandomMessage(r)
		b, ok := impl.MessageBytes(m)
		back, read := impl.ReadMessage(b)
		if !ok || !read || !alikeMessages(back, m) {
			t.Errorf("%s comes back as %s, %v, %v", shown(m), shown(back), ok, read)
		}
	}
}

// Two messages that are not alike have no bytes alike.
func TestNoTwoMessagesHaveTheSameBytes(t *testing.T) {
	r := rand.New(rand.NewSource(13))
	for range 2000 {
		m := goodRandomMessage(r)
		other := damagedMessage(r, m)
		b, ok := impl.MessageBytes(m)
		c, also := impl.MessageBytes(other)
		if ok && also && (b == c) != alikeMessages(m, other) {
			t.Errorf("%s and %s have the bytes %q and %q", shown(m), shown(other), b, c)
		}
	}
}

// Promise 4 without the model's help: the size, the sets, and that nothing is left out that has room.
func TestWhatIsCutHasItsSizeAndWholeSets(t *testing.T) {
	r := rand.New(rand.NewSource(14))
	for range 1000 {
		m := goodRandomMessage(r)
		size := 20 + r.Intn(581)
		cut, ok := impl.CutMessage(m, size)
		if !ok {
			continue
		}
		if b, good := impl.MessageBytes(cut); !good || len(b) > size || !cut.Reply {
			t.Errorf("CutMessage(%s, %d) has %d bytes, %v", shown(m), size, len(b), good)
		}
		wantWholeSets(t, m.Answer, cut.Answer)
		wantWholeSets(t, m.Authority, cut.Authority)
		if len(cut.Answer) < len(m.Answer) && len(cut.Authority) > 0 {
			t.Errorf("of Answer a set went ahead of those of Authority: %s", shown(cut))
		}
		again, ok := impl.CutMessage(cut, size)
		if !ok || !alikeMessages(again, cut) {
			t.Errorf("what is cut to %d is cut again: %s", size, shown(again))
		}
	}
}

func wantWholeSets(t *testing.T, l, left []impl.Record) {
	t.Helper()
	many := len(left)
	if many > len(l) || !slices.Equal(l[:many], left) {
		t.Errorf("of %s is left %s", shown(l), shown(left))
		return
	}
	if many > 0 && many < len(l) && l[many-1].Name == l[many].Name && l[many-1].Type == l[many].Type {
		t.Errorf("a set of %s is cut through at %d", shown(l), many)
	}
}
