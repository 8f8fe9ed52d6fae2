package tests

import (
	"math"
	"math/rand"
	"slices"

	"loop.example/g00300/impl"
)

// The model has its own numbers, so that the program's constants are asked for, too.
const (
	mostWeights = 12
	mostWeight  = 50
	mostTotal   = 600
	mostPicks   = 600
	farNow      = 10000
)

func totalOf(l []int) int {
	total := 0
	for _, n := range l {
		total += n
	}
	return total
}

func wantGoodWeights(l []int) bool {
	if len(l) == 0 || len(l) > mostWeights || slices.Min(l) < 0 || slices.Max(l) > mostWeight {
		return false
	}
	return slices.Max(l) > 0
}

// wantAlias keeps what is left and what is done beside the columns, and fills in part by part.
func wantAlias(l []int) ([]impl.Column, bool) {
	if !wantGoodWeights(l) {
		return nil, false
	}
	total, left, columns := totalOf(l), make([]int, len(l)), make([]impl.Column, len(l))
	for i, weight := range l {
		for range l {
			left[i] += weight
		}
	}
	done := map[int]bool{}
	for {
		small, great := -1, -1
		for i := len(l) - 1; i >= 0; i-- {
			if left[i] < total && !done[i] {
				small = i
			}
			if left[i] > total {
				great = i
			}
		}
		if small < 0 {
			break
		}
		columns[small] = impl.Column{Keep: left[small], Other: great}
		for range total - left[small] {
			left[great]--
		}
		done[small] = true
	}
	for i := range l {
		if !done[i] {
			columns[i] = impl.Column{Keep: total, Other: i}
		}
	}
	return columns, true
}

func wantGoodAlias(l []impl.Column) bool {
	for _, c := range l {
		if c.Keep < 0 || c.Other < 0 || c.Other >= len(l) {
			return false
		}
	}
	return len(l) > 0 && len(l) <= mostWeights
}

// wantParts lays all parts of all columns one behind the other, each told by whose it is. A draw is a place in that.
func wantParts(l []impl.Column, total int) ([]int, bool) {
	if !wantGoodAlias(l) || total < 1 || total > mostTotal {
		return nil, false
	}
	var parts []int
	for i, c := range l {
		if c.Keep > total {
			return nil, false
		}
		parts = append(parts, slices.Repeat([]int{i}, c.Keep)...)
		parts = append(parts, slices.Repeat([]int{c.Other}, total-c.Keep)...)
	}
	return parts, true
}

func wantPickBy(l []impl.Column, total, draw int) (int, bool) {
	parts, ok := wantParts(l, total)
	if !ok || draw < 0 || draw >= len(parts) {
		return 0, false
	}
	return parts[draw], true
}

func wantOften(l []impl.Column, total int) ([]int, bool) {
	parts, ok := wantParts(l, total)
	if !ok {
		return nil, false
	}
	often := make([]int, len(l))
	for _, at := range parts {
		often[at]++
	}
	return often, true
}

func wantNewTurn(l []int) (impl.Turn, bool) {
	if !wantGoodWeights(l) {
		return impl.Turn{}, false
	}
	return turnOf(l, make([]int, len(l))...), true
}

func wantGoodTurn(turn impl.Turn) bool {
	if !wantGoodWeights(turn.Weights) || len(turn.Now) != len(turn.Weights) {
		return false
	}
	return slices.Min(turn.Now) >= -farNow && slices.Max(turn.Now) <= farNow && totalOf(turn.Now) == 0
}

// wantNextTurn goes from the back, so that the first one of those that are alike comes to count.
func wantNextTurn(turn impl.Turn) (impl.Turn, int, bool) {
	if !wantGoodTurn(turn) {
		return impl.Turn{}, 0, false
	}
	now, picked := make([]int, len(turn.Now)), len(turn.Now)-1
	for i := len(now) - 1; i >= 0; i-- {
		now[i] = turn.Now[i] + turn.Weights[i]
		if now[i] >= now[picked] {
			picked = i
		}
	}
	for _, weight := range turn.Weights {
		now[picked] -= weight
	}
	next := turnOf(turn.Weights, now...)
	if !wantGoodTurn(next) {
		return impl.Turn{}, 0, false
	}
	return next, picked, true
}

func wantTurns(l []int, many int) ([]int, bool) {
	turn, ok := wantNewTurn(l)
	if !ok || many < 0 || many > mostPicks {
		return nil, false
	}
	var picks []int
	for range many {
		next, picked, _ := wantNextTurn(turn)
		picks, turn = append(picks, picked), next
	}
	return picks, true
}

func turnOf(weights []int, now ...int) impl.Turn {
	return impl.Turn{Weights: slices.Clone(weights), Now: slices.Clone(now)}
}

func alikeTurns(a, b impl.Turn) bool {
	return slices.Equal(a.Weights, b.Weights) && slices.Equal(a.Now, b.Now)
}

// wildInts are where sums and products go round, and what is negative.
func wildInts() []int {
	return []int{math.MinInt, math.MinInt + 1, math.MinInt / 2, -allSerials, -1, math.MaxInt / 2, math.MaxInt - 1, math.MaxInt}
}

// randomWeights are good ones that lean on 0, on few kinds and on the greatest.
func randomWeights(r *rand.Rand) []int {
	for {
		l, most := make([]int, 1+r.Intn(mostWeights)), 1+r.Intn(mostWeight)
		for i := range l {
			l[i] = []int{0, most, mostWeight, r.Intn(most + 1), r.Intn(most + 1), r.Intn(3)}[r.Intn(6)]
		}
		if wantGoodWeights(l) {
			return l
		}
	}
}

// damagedWeights changes one thing about weights; the list handed in stays as it is.
func damagedWeights(r *rand.Rand, l []int) []int {
	l = slices.Clone(l)
	if len(l) == 0 {
		return []int{r.Intn(3)}
	}
	at := r.Intn(len(l))
	switch r.Intn(6) {
	case 0:
		return l[:at]
	case 1:
		return slices.Repeat(l, 2)
	case 2:
		return make([]int, len(l))
	case 3:
		l[at] = []int{-1, 0, mostWeight, mostWeight + 1}[r.Intn(4)]
	case 4:
		// What is too much in one place is too little in another: the total stays.
		l[at], l[0] = l[at]+mostWeight+1, l[0]-mostWeight-1
	case 5:
		l[at] = wildInts()[r.Intn(8)]
	}
	return l
}

// randomColumns are good ones of a total, and lean on the edges of it.
func randomColumns(r *rand.Rand, total int) []impl.Column {
	l := make([]impl.Column, 1+r.Intn(mostWeights))
	for i := range l {
		keep := []int{0, total, total - 1, 1, r.Intn(total + 1), r.Intn(total + 1)}[r.Intn(6)]
		l[i] = impl.Column{Keep: keep, Other: []int{i, 0, len(l) - 1, r.Intn(len(l))}[r.Intn(4)]}
	}
	return l
}

// damagedColumns changes one thing about columns; the list handed in stays as it is.
func damagedColumns(r *rand.Rand, l []impl.Column, total int) []impl.Column {
	l = slices.Clone(l)
	if len(l) == 0 {
		return []impl.Column{{Keep: total}}
	}
	at := r.Intn(len(l))
	switch r.Intn(6) {
	case 0:
		return l[:at]
	case 1:
		return slices.Repeat(l, 2)
	case 2:
		l[at].Keep = []int{-1, total + 1}[r.Intn(2)]
	case 3:
		l[at].Other = []int{-1, len(l)}[r.Intn(2)]
	case 4:
		l[at].Keep = wildInts()[r.Intn(8)]
	case 5:
		l[at].Other = wildInts()[r.Intn(8)]
	}
	return l
}

// randomTurn is a good one: what one is ahead another is behind, now and then as far as may be.
func randomTurn(r *rand.Rand) impl.Turn {
	turn := turnOf(randomWeights(r))
	turn.Now = make([]int, len(turn.Weights))
	for range r.Intn(30) {
		a, b := r.Intn(len(turn.Now)), r.Intn(len(turn.Now))
		by := min(farNow-turn.Now[a], farNow+turn.Now[b])
		by = []int{by, max(0, by-r.Intn(60)), r.Intn(by + 1), min(by, r.Intn(60))}[r.Intn(4)]
		turn.Now[a] += by
		turn.Now[b] -= by
	}
	return turn
}

// damagedTurn changes one thing about a turn; the turn handed in stays as it is.
func damagedTurn(r *rand.Rand, turn impl.Turn) impl.Turn {
	turn = turnOf(turn.Weights, turn.Now...)
	if len(turn.Now) == 0 {
		return turnOf([]int{1}, 0)
	}
	at, other := r.Intn(len(turn.Now)), r.Intn(len(turn.Now))
	switch r.Intn(7) {
	case 0:
		turn.Now = append(turn.Now, 0)
	case 1:
		turn.Now = turn.Now[:at]
	case 2:
		turn.Now[at] += []int{-1, 1}[r.Intn(2)]
	case 3:
		far := farNow + 1 - turn.Now[at]
		turn.Now[at], turn.Now[other] = turn.Now[at]+far, turn.Now[other]-far
	case 4:
		wild := wildInts()[r.Intn(8)]
		turn.Now[at], turn.Now[other] = turn.Now[at]+wild, turn.Now[other]-wild
	default:
		turn.Weights = damagedWeights(r, turn.Weights)
	}
	return turn
}
