package tests

import (
	"math/rand"
	"slices"
	"strings"
	"testing"

	"loop.example/g00300/impl"
)

// longName has 60 bytes, 62 when it is told without a pointer; no two of these, for i in 0..25, end alike.
func longName(i int) string {
	letter := string([]byte{'a' + byte(i)})
	return strings.Repeat(letter, 18) + "." + strings.Repeat(letter, 20) + "." + strings.Repeat(letter, 20)
}

// eightLabels are names of 59 bytes, 61 in all, of eight labels each, none of which ends as another does.
func eightLabels(i int) string {
	letter := string([]byte{'a' + byte(i)})
	return strings.Repeat(strings.Repeat(letter, 6)+".", 5) + strings.Repeat(letter+"-"+letter+"-"+letter+"-"+letter+".", 2) + strings.Repeat(letter, 8)
}

func namesFrom(name func(int) string, from, to int) []string {
	var l []string
	for i := from; i < to; i++ {
		l = append(l, name(i))
	}
	return l
}

// fullReply has MaxRecords records in each list, with 25 names in all.
func fullReply(names []string) impl.Message {
	m := replyOf(namesOnly(names[1:13]), namesOnly(names[13:25]))
	m.Name = names[0]
	return m
}

func sizeOfNames(b string) int {
	return int(b[6])*256 + int(b[7])
}

// bareRecords are the bytes behind the names of so many records of namesOnly.
func bareRecords(many int) string {
	return "\x01" + strings.Repeat("\x10\x00\x00\x00\x01\x00", many)
}

func TestLongestMessages(t *testing.T) {
	b := wantBack(t, fullReply(namesFrom(longName, 0, 25)))
	if sizeOfNames(b) != 25*62 || len(b) != 8+25*62+1+24*6 {
		t.Errorf("the names have %d bytes, all of it %d", sizeOfNames(b), len(b))
	}
	b = wantBack(t, fullReply(namesFrom(eightLabels, 0, 25)))
	if sizeOfNames(b) != 25*len(wantPlain(eightLabels(0))) {
		t.Errorf("the names of eight labels have %d bytes", sizeOfNames(b))
	}
	m := fullReply(namesFrom(longName, 0, 25))
	for _, l := range [][]impl.Record{m.Answer, m.Authority} {
		for i := range l {
			l[i] = impl.Record{Name: l[i].Name, Type: 15, Ttl: 100000, Data: "65535 " + longName(i)}
		}
	}
	m.Id, m.Cut, m.Code = 65535, true, 5
	if b = wantBack(t, m); len(b) != 8+25*62+1+24*(5+64) {
		t.Errorf("the longest message has %d bytes", len(b))
	}
}

// As many names as there can be, from those with few bytes on, so that MaxWire is met and gone beyond by one list or by the other.
func TestLongNamesOfEachManyRecords(t *testing.T) {
	for answers := range 13 {
		for authority := range 13 {
			m := replyOf(namesOnly(namesFrom(longName, 0, answers)), namesOnly(namesFrom(longName, 12, 12+authority)))
			b := wantBack(t, m)
			if sizeOfNames(b) != 10+62*(answers+authority) {
				t.Errorf("%d and %d: %d", answers, authority, sizeOfNames(b))
			}
		}
	}
}

// A name that was told at a place behind MaxWire is pointed to: whole, by its suffixes, and with a label ahead.
func TestNamesToldBehindMaxWire(t *testing.T) {
	names := namesFrom(longName, 0, 13)
	packed := ""
	for _, name := range names {
		packed += wantPlain(name)
	}
	front, behind := "\x00\x07\x80\x00\x0c\x04", bareRecords(16)
	for i, name := range names {
		at := 62 * i
		short := "z." + name[19:]
		m := replyOf(namesOnly(names[1:]), namesOnly([]string{name, name[19:], short, name[40:]}))
		m.Name = names[0]
		told := pointerTo(at) + pointerTo(at+19) + "\x01z" + pointerTo(at+19) + pointerTo(at+40)
		wantMessageBack(t, m, messageWire(front, packed+told, behind))
		// Among the names that are told by a pointer are some that others point to.
		m.Authority = namesOnly([]string{short, name, short, "y." + short})
		told = "\x01z" + pointerTo(at+19) + pointerTo(at) + pointerTo(13*62) + "\x01y" + pointerTo(13*62)
		wantMessageBack(t, m, messageWire(front, packed+told, behind))
	}
}

// The last of 25 names points to each of those ahead of it, as far behind as they can stand.
func TestTheLastOf25NamesIsPointedTo(t *testing.T) {
	names := namesFrom(longName, 0, 24)
	packed := ""
	for _, name := range names {
		packed += wantPlain(name)
	}
	front, behind := "\x00\x07\x80\x00\x0c\x0c", bareRecords(24)
	for i, name := range names {
		wantMessageBack(t, fullReply(append(slices.Clone(names), name)), messageWire(front, packed+pointerTo(62*i), behind))
		wantMessageBack(t, fullReply(append(slices.Clone(names), name[40:])), messageWire(front, packed+pointerTo(62*i+40), behind))
	}
}

// Names told around the place MaxWire, byte by byte: all of a name ahead of it, across it, and all of it behind.
func TestNamesAroundMaxWire(t *testing.T) {
	long := namesFrom(longName, 0, 9)
	for size := 1; size <= 60; size++ {
		first := longName(25)[60-size:]
		if first[0] == '.' {
			continue
		}
		at := 9*62 + len(wantPlain(first))
		m := replyOf(namesOnly(append(slices.Clone(long[1:]), first)), namesOnly([]string{"q.r", "s.r", "q.r", "r"}))
		m.Name = long[0]
		b := wantBack(t, m)
		told := "\x01q\x01r\x00" + "\x01s" + pointerTo(at+2) + pointerTo(at) + pointerTo(at+2)
		if b[8+at:8+sizeOfNames(b)] != told {
			t.Errorf("at %d: %q", at, b[8+at:])
		}
	}
}

// Bytes beyond MaxWire that no message has: names that could be shorter, and pointers that do not lead back.
func TestLongNamesPackedOtherwise(t *testing.T) {
	names := namesFrom(longName, 0, 12)
	packed := ""
	for _, name := range names {
		packed += wantPlain(name)
	}
	front, behind := "\x00\x07\x80\x00\x0c\x00", bareRecords(12)
	m := replyOf(namesOnly(append(slices.Clone(names[1:]), names[11])), nil)
	m.Name = names[0]
	wantMessageBack(t, m, messageWire(front, packed+pointerTo(11*62), behind))
	last := names[11]
	others := []string{
		wantPlain(last), strings.ToUpper(wantPlain(last)), "\x12" + last[:18] + pointerTo(11*62+19), pointerTo(11*62) + "\x00", "",
		pointerTo(12 * 62), pointerTo(12*62 + 1), pointerTo(12*62 + 2), pointerTo(16383), pointerTo(11*62 + 1), "\xc2", "\x00\x00", "\x01Q\x00", "\x01q",
		"\x01q" + pointerTo(12*62), "\x01q\x01r" + pointerTo(12*62+2), "\x15" + strings.Repeat("q", 21) + "\x00", "\x01q" + pointerTo(11*62), "\x03q.q\x00",
	}
	for _, told := range others {
		wantNoMessage(t, messageWire(front, packed+told, behind))
	}
	// The place of the byte 0 is none that is pointed to, though a name stands there.
	wantNoMessage(t, messageWire(front, packed+pointerTo(11*62+61), behind))
	wantNoMessage(t, messageWire(front, strings.Replace(packed, wantPlain(names[10]), "\x01q\x00", 1)+pointerTo(11*62), behind))
}

func TestLongBytesThatEndTooEarlyOrLate(t *testing.T) {
	names := namesFrom(longName, 0, 13)
	m := replyOf(namesOnly(names[1:]), namesOnly([]string{names[12], "q." + names[11][19:]}))
	m.Name = names[0]
	b := wantBack(t, m)
	for end := range len(b) {
		wantNoMessage(t, b[:end])
	}
	for _, more := range []string{"\x00", "\xff", b} {
		wantNoMessage(t, b+more)
	}
	for at := range len(b) {
		for _, value := range []byte{0, b[at] + 1, b[at] ^ 32, 194} {
			checkMessageBytes(t, b[:at]+string([]byte{value})+b[at+1:])
		}
	}
}

// As many bytes of names as two bytes can tell: none of them is a message's, and reading them ends.
func TestNamesOf65535Bytes(t *testing.T) {
	chain := "\x00\x00" + pointerTo(0)
	for at := 4; at+2 <= 16384; at += 2 {
		chain += pointerTo(at - 2)
	}
	last := pointerTo(len(chain) - 2)
	all := []string{
		strings.Repeat("\x00", 65535), strings.Repeat("\x01a", 32767) + "\x00", strings.Repeat("\x14"+label20, 3120), strings.Repeat("\x01a\x00", 21845),
		strings.Repeat("\xff", 65535), strings.Repeat("\xc0\x00", 32767), chain + strings.Repeat(last, (65535-len(chain))/2),
	}
	for _, names := range all {
		for _, counts := range []string{"\x00\x00", "\x01\x00", "\x0c\x0c", "\xff\xff"} {
			many := int(counts[0]) + int(counts[1])
			wantNoMessage(t, messageWire("\x00\x07\x80\x00"+counts, names, bareRecords(many)))
		}
	}
}

// wantCutToEverySize asks for the model's answer at each size, and for none at those beyond.
func wantCutToEverySize(t *testing.T, m impl.Message) {
	t.Helper()
	b := wantBack(t, m)
	if sizeOfNames(b) <= impl.MaxWire {
		t.Fatalf("the names have %d bytes", sizeOfNames(b))
	}
	tries := cutTriesOf(m)
	for size := 20; size <= impl.MaxWire; size++ {
		want, ok := firstThatFits(tries, size)
		cut, good := impl.CutMessage(m, size)
		if !alikeMessages(cut, want) || good != ok {
			t.Fatalf("CutMessage(%s, %d) = %s, %v; want %s, %v", shown(m), size, shown(cut), good, shown(want), ok)
		}
		if ok && !cut.Cut {
			t.Fatalf("CutMessage(%s, %d) is not Cut", shown(m), size)
		}
	}
	for _, size := range []int{19, 601, len(b) - 1, len(b)} {
		wantNotCut(t, m, size)
	}
}

func TestLongMessagesCutToEverySize(t *testing.T) {
	names := namesFrom(longName, 0, 24)
	m := impl.Message{Id: 7, Reply: true, Type: 1, Answer: namesOnly(names[:12]), Authority: namesOnly(names[12:])}
	wantCutToEverySize(t, m)
	m.Code, m.Authority = 3, nil
	wantCutToEverySize(t, m)
	m.Answer, m.Authority = nil, namesOnly(names[:12])
	wantCutToEverySize(t, m)
	m.Name, m.Cut = names[20], true
	wantCutToEverySize(t, m)
	// Sets of several records, some of which point to what goes with others.
	m.Answer = namesOnly([]string{names[0], names[0], names[1], "q", "q", names[1], names[3], names[3], names[3], names[4], "q." + names[1][19:], "q." + names[1][19:]})
	m.Authority = namesOnly([]string{names[5], names[5], names[6], names[6], names[7], names[8], names[8], "r." + names[0][19:], names[9], names[9], names[10], names[10]})
	wantCutToEverySize(t, m)
	wantCutToEverySize(t, fullReply(namesFrom(eightLabels, 0, 25)))
}

func TestRandomLongMessagesCutToEverySize(t *testing.T) {
	r := rand.New(rand.NewSource(18))
	for many := 0; many < 12; {
		m := longRandomMessage(r)
		if b, _ := wantMessageBytes(m); sizeOfNames(b) > impl.MaxWire {
			wantCutToEverySize(t, m)
			many++
		}
	}
}

// longRandomSets draws long names that seldom end alike.
func longRandomSets(r *rand.Rand) []impl.Record {
	var l []impl.Record
	for range 4 + r.Intn(9) {
		one := goodRandomRecord(r)
		switch r.Intn(5) {
		case 0:
			one.Name = eightLabels(r.Intn(26))
		case 1:
			one.Name = "q." + longName(r.Intn(26))[19:]
		case 2, 3:
			one.Name = longName(r.Intn(26))
		}
		if last := len(l) - 1; last >= 0 && r.Intn(4) == 0 {
			one = l[last]
		}
		l = append(l, one)
	}
	return l
}

func longRandomMessage(r *rand.Rand) impl.Message {
	m := goodRandomMessage(r)
	m.Reply, m.Answer, m.Authority = true, longRandomSets(r), longRandomSets(r)
	return m
}

func TestRandomLongMessagesComeBack(t *testing.T) {
	r := rand.New(rand.NewSource(19))
	long := 0
	for range 300 {
		m := longRandomMessage(r)
		b := wantBack(t, m)
		checkMessageBytes(t, damaged(r, b))
		checkMessage(t, damagedMessage(r, m), 20+r.Intn(581))
		if sizeOfNames(b) > impl.MaxWire {
			long++
		}
	}
	if long < 50 {
		t.Errorf("only %d of 300 have names of more than MaxWire bytes", long)
	}
}

// Chapter 2 keeps its limits, whatever names a message has.
func TestChapter2KeepsItsLimits(t *testing.T) {
	names := namesFrom(longName, 0, 10)
	wantNotPacked(t, names)
	b := wantBack(t, replyOf(namesOnly(names), nil))
	packed := b[8 : 8+sizeOfNames(b)]
	wantNotUnpacked(t, packed, 11)
	wantNotTaken(t, packed, 0)
	wantNotPut(t, packed, "")
	wantNotPut(t, packed[:len(packed)-62], names[9])
	if l, ok := impl.SuffixesOf(packed); len(l) != 0 || ok {
		t.Errorf("SuffixesOf of %d bytes = %v, %v", len(packed), l, ok)
	}
}

func TestLongMessagesShareNoMemory(t *testing.T) {
	m := freshMessage(fullReply(namesFrom(longName, 0, 25)))
	before := freshMessage(m)
	b, _ := impl.MessageBytes(m)
	wantApart(t, []string{b}, textsOfMessage(m)...)
	read, _ := impl.ReadMessage(b)
	wantApart(t, textsOfMessage(read), b)
	cut, _ := impl.CutMessage(m, 600)
	reply, _ := impl.ReplyTo(impl.Message{Id: 1, Name: m.Name, Type: 1}, 0, m.Answer, m.Authority)
	for _, answer := range []impl.Message{read, cut, reply} {
		wantApart(t, textsOfMessage(answer), textsOfMessage(m)...)
		wantListsApart(t, answer)
		written(answer)
	}
	if !alikeMessages(m, before) {
		t.Error("an answer shares memory with the message")
	}
}
