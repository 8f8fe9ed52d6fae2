package tests

import (
	"bytes"
	"encoding/binary"
	"math/rand"
	"slices"
	"strings"

	"loop.example/g00300/impl"
)

var fourCodes = []int{0, 1, 3, 5}

func wantGoodMessage(m impl.Message) bool {
	both := slices.Concat(m.Answer, m.Authority)
	bare := !m.Cut && m.Code == 0 && len(both) == 0
	return uint64(m.Id) < 1<<16 && slices.Contains(fourCodes, m.Code) && wantGood(m.Name) && slices.Contains(sixTypes, m.Type) &&
		len(m.Answer) <= 12 && len(m.Authority) <= 12 && !slices.ContainsFunc(both, func(r impl.Record) bool { return !wantGoodRecord(r) }) &&
		(m.Reply || bare)
}

// wantPackedNames packs the message's own name, and those of all records, however many bytes they have.
func wantPackedNames(m impl.Message) string {
	packed := wantPutLong("", m.Name)
	for _, r := range slices.Concat(m.Answer, m.Authority) {
		packed = wantPutLong(packed, r.Name)
	}
	return packed
}

func wantMessageBytes(m impl.Message) (string, bool) {
	if !wantGoodMessage(m) {
		return "", false
	}
	packed := wantPackedNames(m)
	b := binary.BigEndian.AppendUint16(nil, uint16(m.Id))
	b = append(b, 0, byte(m.Code), byte(len(m.Answer)), byte(len(m.Authority)))
	if m.Reply {
		b[2] |= 0x80
	}
	if m.Cut {
		b[2] |= 0x01
	}
	b = binary.BigEndian.AppendUint16(b, uint16(len(packed)))
	b = append(append(b, packed...), byte(m.Type))
	for _, r := range slices.Concat(m.Answer, m.Authority) {
		data, _ := wantDataBytes(r.Type, r.Data)
		b = binary.BigEndian.AppendUint32(b, uint32(r.Type)<<24|uint32(r.Ttl))
		b = append(append(b, byte(len(data))), data...)
	}
	return string(b), true
}

// wantMessageFrom reads what is there, up to where it ends, and asks whether just these are the bytes of what it read.
func wantMessageFrom(b string) (impl.Message, bool) {
	if len(b) < 8 {
		return impl.Message{}, false
	}
	m := impl.Message{Id: int(b[0])<<8 + int(b[1]), Reply: b[2] >= 128, Cut: b[2]%2 == 1, Code: int(b[3])}
	size := int(b[6])<<8 + int(b[7])
	if len(b) < 8+size+1 {
		return impl.Message{}, false
	}
	packed := b[8 : 8+size]
	name, _, at, ok := wantReadLong(packed, 0)
	m.Name, m.Type = name, int(b[8+size])
	rest := bytes.NewBufferString(b[8+size+1:])
	for i := 0; ok && i < int(b[4])+int(b[5]); i++ {
		var r impl.Record
		var head [5]byte
		r.Name, _, at, ok = wantReadLong(packed, at)
		copy(head[:], rest.Next(5))
		r.Type, r.Ttl = int(head[0]), int(head[1])<<16+int(head[2])<<8+int(head[3])
		r.Data, _ = wantDataFrom(r.Type, string(rest.Next(int(head[4]))))
		if i < int(b[4]) {
			m.Answer = append(m.Answer, r)
		} else {
			m.Authority = append(m.Authority, r)
		}
	}
	if again, good := wantMessageBytes(m); !ok || !good || again != b {
		return impl.Message{}, false
	}
	return m, true
}

// wantCuts are all that may be left of a list, the longest first: it ends where one set does.
func wantCuts(l []impl.Record) [][]impl.Record {
	var cuts [][]impl.Record
	for end := len(l); end >= 0; end-- {
		if end == len(l) || end == 0 || l[end-1].Name != l[end].Name || l[end-1].Type != l[end].Type {
			cuts = append(cuts, l[:end])
		}
	}
	return cuts
}

// cutTry is what may be left of a message, and how many bytes it has.
type cutTry struct {
	left impl.Message
	size int
}

// cutTriesOf is for good messages: all that may be left, the most first.
func cutTriesOf(m impl.Message) []cutTry {
	var tries []cutTry
	try := func(answer, authority []impl.Record) {
		left := m
		left.Answer, left.Authority = answer, authority
		left.Cut = m.Cut || len(answer)+len(authority) < len(m.Answer)+len(m.Authority)
		b, _ := wantMessageBytes(left)
		tries = append(tries, cutTry{left, len(b)})
	}
	for _, authority := range wantCuts(m.Authority) {
		try(m.Answer, authority)
	}
	for _, answer := range wantCuts(m.Answer) {
		try(answer, nil)
	}
	return tries
}

func firstThatFits(tries []cutTry, size int) (impl.Message, bool) {
	for _, try := range tries {
		if try.size <= size {
			return try.left, true
		}
	}
	return impl.Message{}, false
}

func wantCut(m impl.Message, size int) (impl.Message, bool) {
	if !wantGoodMessage(m) || !m.Reply || size < 20 || size > 600 {
		return impl.Message{}, false
	}
	return firstThatFits(cutTriesOf(m), size)
}

func wantQuestion(id int, name string, kind int) (impl.Message, bool) {
	if id < 0 || id > 65535 || !wantGood(name) || !slices.Contains(sixTypes, kind) {
		return impl.Message{}, false
	}
	return impl.Message{Id: id, Name: name, Type: kind}, true
}

func wantReply(m impl.Message, code int, answer, authority []impl.Record) (impl.Message, bool) {
	question, ok := wantQuestion(m.Id, m.Name, m.Type)
	if !ok || !alikeMessages(m, question) {
		return impl.Message{}, false
	}
	m.Reply, m.Code, m.Answer, m.Authority = true, code, answer, authority
	if !wantGoodMessage(m) {
		return impl.Message{}, false
	}
	return m, true
}

// alikeMessages takes an empty list and a nil one as the same value.
func alikeMessages(a, b impl.Message) bool {
	if !slices.Equal(a.Answer, b.Answer) || !slices.Equal(a.Authority, b.Authority) {
		return false
	}
	return a.Id == b.Id && a.Reply == b.Reply && a.Cut == b.Cut && a.Code == b.Code && a.Name == b.Name && a.Type == b.Type
}

// randomSets draws several records of each name and type, so that the last set is often more than one record.
func randomSets(r *rand.Rand, most int) []impl.Record {
	var l []impl.Record
	for range r.Intn(most + 1) {
		one := goodRandomRecord(r)
		if r.Intn(3) == 0 {
			one.Name = strings.Trim(label20+"."+one.Name, ".")
		}
		if last := len(l) - 1; last >= 0 && r.Intn(2) == 0 {
			one = l[last]
			one.Ttl = r.Intn(100001)
		}
		l = append(l, one)
	}
	return l
}

func goodRandomMessage(r *rand.Rand) impl.Message {
	m := impl.Message{Id: r.Intn(65536), Name: randomName(r), Type: sixTypes[r.Intn(6)]}
	if r.Intn(5) == 0 {
		return m
	}
	m.Reply, m.Cut, m.Code = true, r.Intn(4) == 0, fourCodes[r.Intn(4)]
	m.Answer, m.Authority = randomSets(r, 12), randomSets(r, 12)
	return m
}

// damagedMessage changes one thing, which most often makes a message that is not good; the one handed in stays as it is.
func damagedMessage(r *rand.Rand, m impl.Message) impl.Message {
	switch r.Intn(9) {
	case 0:
		m.Id = []int{-1, 0, 65535, 65536, 1 << 32}[r.Intn(5)]
	case 1:
		m.Reply = !m.Reply
	case 2:
		m.Cut = !m.Cut
	case 3:
		m.Code = r.Intn(12) - 3
	case 4:
		m.Name = damaged(r, m.Name)
	case 5:
		m.Type = r.Intn(20) - 1
	case 6:
		m.Answer = damagedList(r, m.Answer)
	case 7:
		m.Authority = damagedList(r, m.Authority)
	case 8:
		m.Answer, m.Authority = m.Authority, m.Answer
	}
	return m
}

func damagedList(r *rand.Rand, l []impl.Record) []impl.Record {
	l = slices.Clone(l)
	if len(l) == 0 || r.Intn(4) == 0 {
		return append(l, goodRandomRecords(r, 13)...)
	}
	at := r.Intn(len(l))
	switch r.Intn(4) {
	case 0:
		l[at] = randomRecord(r)
	case 1:
		l[at].Type = r.Intn(18)
	case 2:
		l[at].Ttl = []int{-1, 0, 100000, 100001, 1 << 24}[r.Intn(5)]
	case 3:
		l[at].Data = damaged(r, l[at].Data)
	}
	return l
}
