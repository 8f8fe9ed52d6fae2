package tests

import (
	"cmp"
	"fmt"
	"maps"
	"math/rand"
	"regexp"
	"slices"
	"strconv"
	"strings"

	"loop.example/g00300/impl"
)

// The model has its own numbers, so that the program's constants are asked for, too.
const (
	mostClients    = 8
	mostAsked      = 40
	greatestClient = 100
	greatestNo     = 1000
	mostDone       = 1000000
)

var (
	askedHeadForm = regexp.MustCompile(`\A` + numberForm + ` ` + numberForm + `\z`)
	changeForm    = regexp.MustCompile(`(?s)\A([1-4]) (.*)\z`)
)

func wantAsker(client, no int) bool {
	return client >= 0 && client <= greatestClient && no >= 1 && no <= greatestNo
}

func wantGoodDone(d impl.Done) bool {
	return wantAsker(d.Client, d.No) && d.Code >= 0 && d.Code <= 4 && d.Serial >= 0 && d.Serial < allSerials
}

func wantGoodControl(c impl.Control) bool {
	for i, d := range c.Last {
		if !wantGoodDone(d) {
			return false
		}
		for _, other := range c.Last[i+1:] {
			if other.Client <= d.Client {
				return false
			}
		}
	}
	return wantGoodZone(c.Zone) && len(c.Last) <= mostClients && c.Many >= 0 && c.Many <= mostDone
}

// ledger is a control whose clients stand in no order.
type ledger struct {
	zone impl.Zone
	last map[int]impl.Done
	many int
}

func ledgerOf(c impl.Control) ledger {
	m := ledger{zone: c.Zone, last: map[int]impl.Done{}, many: c.Many}
	for _, d := range c.Last {
		m.last[d.Client] = d
	}
	return m
}

func (m ledger) control() impl.Control {
	last := slices.SortedFunc(maps.Values(m.last), func(a, b impl.Done) int { return cmp.Compare(a.Client, b.Client) })
	return controlWith(m.zone, m.many, last...)
}

// take is for an asker as said. It writes into the ledger, and tells false where that stays as it was for lack of room or of numbers.
func (m *ledger) take(a impl.Asked) (impl.Done, bool) {
	last, known := m.last[a.Client]
	if known && last.No == a.No {
		return last, true
	}
	if known && last.No > a.No || !known && len(m.last) >= mostClients || m.many >= mostDone {
		return impl.Done{}, false
	}
	d := impl.Done{Client: a.Client, No: a.No}
	m.zone, d.Code = wantBatch(m.zone, a.Changes)
	d.Serial, _ = wantZoneSerial(m.zone)
	m.many++
	m.last[a.Client] = d
	return d, true
}

func wantNewControl(apex string) (impl.Control, bool) {
	zone, ok := wantNewZone(apex)
	return impl.Control{Zone: zone}, ok
}

func wantTakeAsked(c impl.Control, a impl.Asked) (impl.Control, impl.Done, bool) {
	if !wantGoodControl(c) || !wantAsker(a.Client, a.No) {
		return impl.Control{}, impl.Done{}, false
	}
	m := ledgerOf(c)
	d, ok := m.take(a)
	if !ok {
		return impl.Control{}, impl.Done{}, false
	}
	return m.control(), d, true
}

func wantPlayAsked(apex string, l []impl.Asked) (impl.Control, []impl.Done, bool) {
	c, ok := wantNewControl(apex)
	if !ok || len(l) > mostAsked {
		return impl.Control{}, nil, false
	}
	m, told := ledgerOf(c), []impl.Done(nil)
	for _, a := range l {
		var d impl.Done
		if wantAsker(a.Client, a.No) {
			d, _ = m.take(a)
		}
		told = append(told, d)
	}
	return m.control(), told, true
}

func wantAnswerTo(c impl.Control, client, no int) (impl.Done, bool) {
	if !wantGoodControl(c) {
		return impl.Done{}, false
	}
	at := slices.IndexFunc(c.Last, func(d impl.Done) bool { return d.Client == client && d.No == no })
	if at < 0 {
		return impl.Done{}, false
	}
	return c.Last[at], true
}

func wantAskedText(a impl.Asked) (string, bool) {
	if !wantAsker(a.Client, a.No) || !wantChanges(a.Changes) {
		return "", false
	}
	lines := []string{fmt.Sprintf("%d %d", a.Client, a.No)}
	for _, c := range a.Changes {
		text, _ := wantRecordText(c.Record)
		lines = append(lines, fmt.Sprintf("%d %s", c.Kind, text))
	}
	return strings.Join(lines, "\n"), true
}

func wantAskedFrom(s string) (impl.Asked, bool) {
	lines := strings.Split(s, "\n")
	parts := askedHeadForm.FindStringSubmatch(lines[0])
	if parts == nil {
		return impl.Asked{}, false
	}
	client, err := strconv.Atoi(parts[1])
	no, err2 := strconv.Atoi(parts[2])
	a := impl.Asked{Client: client, No: no}
	for _, line := range lines[1:] {
		parts = changeForm.FindStringSubmatch(line)
		if parts == nil {
			return impl.Asked{}, false
		}
		r, _ := wantRecordFrom(parts[2])
		a.Changes = append(a.Changes, impl.Change{Kind: int(parts[1][0] - '0'), Record: r})
	}
	if err != nil || err2 != nil || !wantAsker(client, no) || !wantChanges(a.Changes) {
		return impl.Asked{}, false
	}
	return a, true
}

func askedBy(client, no int, l ...impl.Change) impl.Asked {
	return impl.Asked{Client: client, No: no, Changes: l}
}

func doneFor(client, no, code, serial int) impl.Done {
	return impl.Done{Client: client, No: no, Code: code, Serial: serial}
}

func controlWith(z impl.Zone, many int, last ...impl.Done) impl.Control {
	return impl.Control{Zone: z, Last: slices.Clone(last), Many: many}
}

func alikeControls(a, b impl.Control) bool {
	return alikeZones(a.Zone, b.Zone) && slices.Equal(a.Last, b.Last) && a.Many == b.Many
}

func alikeAsked(a, b impl.Asked) bool {
	return a.Client == b.Client && a.No == b.No && slices.Equal(a.Changes, b.Changes)
}

// freshControl lies in memory of its own.
func freshControl(c impl.Control) impl.Control {
	return controlWith(freshZone(c.Zone), c.Many, c.Last...)
}

func freshAsked(a impl.Asked) impl.Asked {
	return impl.Asked{Client: a.Client, No: a.No, Changes: freshBatch(a.Changes)}
}

// randomLast rises by clients that stand close together.
func randomLast(r *rand.Rand, many int) []impl.Done {
	var l []impl.Done
	for client := r.Intn(3); len(l) < many; client += 1 + r.Intn(2) {
		d := doneFor(client, 1+r.Intn(5), r.Intn(5), r.Intn(9))
		if r.Intn(8) == 0 {
			d = doneFor(client, 1+r.Intn(greatestNo), r.Intn(5), r.Intn(allSerials))
		}
		l = append(l, d)
	}
	if many > 0 && r.Intn(4) == 0 {
		l[many-1] = doneFor(greatestClient, greatestNo, 4, allSerials-1)
	}
	return l
}

// randomControl is good. Often it has no room for a client more, and at times none for anything.
func randomControl(r *rand.Rand) impl.Control {
	many := oneOf(r, []int{0, 1, 3, mostClients - 1, mostClients, mostClients, r.Intn(mostClients + 1)})
	done := oneOf(r, []int{0, many, mostDone - 1, mostDone, r.Intn(mostDone)})
	return controlWith(goodRandomZone(r), done, randomLast(r, many)...)
}

// damagedControl changes one thing about a control; what is handed in stays as it is.
func damagedControl(r *rand.Rand, c impl.Control) impl.Control {
	c = freshControl(c)
	if len(c.Last) == 0 {
		c.Last = randomLast(r, 1)
	}
	at, other := r.Intn(len(c.Last)), r.Intn(len(c.Last))
	edges := append(wildInts(), 0, 1, 4, 5, greatestClient, greatestClient+1, greatestNo, greatestNo+1, allSerials-1, allSerials)
	switch r.Intn(9) {
	case 0:
		c.Zone = damagedZone(r, c.Zone)
	case 1:
		c.Many = oneOf(r, append(edges, mostDone, mostDone+1))
	case 2:
		c.Last[at].Client = oneOf(r, edges)
	case 3:
		c.Last[at].No = oneOf(r, edges)
	case 4:
		c.Last[at].Code = oneOf(r, edges)
	case 5:
		c.Last[at].Serial = oneOf(r, edges)
	case 6:
		c.Last[at], c.Last[other] = c.Last[other], c.Last[at]
	case 7:
		c.Last = slices.Insert(c.Last, at, c.Last[other])
	case 8:
		c.Last = append(c.Last, randomLast(r, 3)...)
	}
	return c
}

// randomAsked leans on clients that asked already, and on the numbers next to their last ones.
func randomAsked(r *rand.Rand, c impl.Control) impl.Asked {
	a := askedBy(r.Intn(20), 1+r.Intn(6))
	if len(c.Zone.Records) > 0 {
		a.Changes = randomBatch(r, c.Zone, 4)
	}
	if len(c.Last) > 0 && r.Intn(4) > 0 {
		last := oneOf(r, c.Last)
		a.Client, a.No = last.Client, last.No+oneOf(r, []int{-1, 0, 0, 1, 1, 1, 2})
	}
	switch r.Intn(20) {
	case 0:
		a.Client = oneOf(r, append(wildInts(), greatestClient, greatestClient+1))
	case 1:
		a.No = oneOf(r, append(wildInts(), 0, greatestNo, greatestNo+1))
	case 2:
		a.Changes = damagedBatch(r, a.Changes)
	case 3:
		a.Changes = slices.Repeat(append(a.Changes, a.Changes...), 5)
	}
	return a
}

// randomAskedRow asks of the control that there is by then, and often a thing again that was asked before.
func randomAskedRow(r *rand.Rand, apex string, many int) []impl.Asked {
	c, _ := wantNewControl(apex)
	var l []impl.Asked
	for range many {
		a := randomAsked(r, c)
		if len(l) > 0 && r.Intn(3) == 0 {
			a = l[max(0, len(l)-1-r.Intn(5))]
		}
		l = append(l, a)
		if then, _, ok := wantTakeAsked(c, a); ok {
			c = then
		}
	}
	return l
}
