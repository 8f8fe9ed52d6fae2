package tests

import (
	"math/rand"
	"slices"
	"testing"

	"loop.example/g00300/impl"
)

// checkWeights asks for all that is told of weights. It tells whether they are good.
func checkWeights(t *testing.T, l []int, several ...int) bool {
	t.Helper()
	if impl.GoodWeights(l) != wantGoodWeights(l) {
		t.Errorf("GoodWeights(%v) = %v", l, !wantGoodWeights(l))
	}
	columns, ok := wantAlias(l)
	if got, good := impl.AliasOf(l); !slices.Equal(got, columns) || good != ok {
		t.Errorf("AliasOf(%v) = %v, %v; want %v, %v", l, got, good, columns, ok)
	}
	turn, ok := wantNewTurn(l)
	if got, good := impl.NewTurn(l); !alikeTurns(got, turn) || good != ok {
		t.Errorf("NewTurn(%v) = %v, %v; want %v, %v", l, got, good, turn, ok)
	}
	for _, many := range several {
		picks, ok := wantTurns(l, many)
		if got, good := impl.TurnsOf(l, many); !slices.Equal(got, picks) || good != ok {
			t.Errorf("TurnsOf(%v, %d) = %v, %v; want %v, %v", l, many, got, good, picks, ok)
		}
	}
	return wantGoodWeights(l)
}

// checkColumns tells whether they are good, and whether draws of that total may be made.
func checkColumns(t *testing.T, l []impl.Column, total int) (bool, bool) {
	t.Helper()
	if impl.GoodAlias(l) != wantGoodAlias(l) {
		t.Errorf("GoodAlias(%v) = %v", l, !wantGoodAlias(l))
	}
	often, ok := wantOften(l, total)
	if got, good := impl.OftenIn(l, total); !slices.Equal(got, often) || good != ok {
		t.Errorf("OftenIn(%v, %d) = %v, %v; want %v, %v", l, total, got, good, often, ok)
	}
	return wantGoodAlias(l), ok
}

// checkPick tells whether one is picked.
func checkPick(t *testing.T, l []impl.Column, total, draw int) bool {
	t.Helper()
	want, ok := wantPickBy(l, total, draw)
	if got, good := impl.PickBy(l, total, draw); got != want || good != ok {
		t.Errorf("PickBy(%v, %d, %d) = %d, %v; want %d, %v", l, total, draw, got, good, want, ok)
	}
	return ok
}

// checkTurn tells whether the turn is good, and whether another one comes behind it.
func checkTurn(t *testing.T, turn impl.Turn) (bool, bool) {
	t.Helper()
	if impl.GoodTurn(turn) != wantGoodTurn(turn) {
		t.Errorf("GoodTurn(%v) = %v", turn, !wantGoodTurn(turn))
	}
	want, picked, ok := wantNextTurn(turn)
	if got, at, good := impl.NextTurn(turn); !alikeTurns(got, want) || at != picked || good != ok {
		t.Errorf("NextTurn(%v) = %v, %d, %v; want %v, %d, %v", turn, got, at, good, want, picked, ok)
	}
	return wantGoodTurn(turn), ok
}

// randomTotal leans on the edges of what a total may be.
func randomTotal(r *rand.Rand) int {
	return []int{0, 1, 2, mostTotal, mostTotal + 1, randomInt(r), 1 + r.Intn(mostTotal), 1 + r.Intn(mostTotal)}[r.Intn(8)]
}

func TestWeightsAnswerAtAnyArguments(t *testing.T) {
	r := rand.New(rand.NewSource(125))
	good, sizes := map[bool]int{}, map[int]int{}
	for range 1500 {
		l := randomWeights(r)
		sizes[len(l)]++
		other := damagedWeights(r, l)
		for _, tried := range [][]int{l, other, damagedWeights(r, other)} {
			good[checkWeights(t, tried, r.Intn(40), randomTotal(r))]++
		}
	}
	if min(good[true], good[false]) < 500 || len(sizes) != mostWeights {
		t.Error("the weights are all of one kind", good, sizes)
	}
}

func TestColumnsAnswerAtAnyArguments(t *testing.T) {
	r := rand.New(rand.NewSource(126))
	good, drawn, picked := map[bool]int{}, map[bool]int{}, map[bool]int{}
	for range 1500 {
		total := 1 + r.Intn(mostTotal)
		l := randomColumns(r, total)
		other := damagedColumns(r, l, total)
		for _, tried := range [][]impl.Column{l, other, damagedColumns(r, other, total)} {
			for _, by := range []int{total, total, total - 1, total + 1, randomTotal(r)} {
				is, may := checkColumns(t, tried, by)
				good[is]++
				drawn[may]++
				picked[checkPick(t, tried, by, r.Intn(12*mostTotal))]++
				picked[checkPick(t, tried, by, r.Intn(13)*by+r.Intn(3)-1)]++
				picked[checkPick(t, tried, by, randomInt(r))]++
				if at := r.Intn(max(1, len(tried))); at < len(tried) {
					picked[checkPick(t, tried, by, at*by+tried[at].Keep+r.Intn(3)-1)]++
				}
			}
		}
	}
	if min(good[true], good[false], drawn[true], drawn[false], picked[true], picked[false]) < 2000 {
		t.Error("the columns are all of one kind", good, drawn, picked)
	}
}

func TestTurnsAnswerAtAnyArguments(t *testing.T) {
	r := rand.New(rand.NewSource(127))
	good, gone := map[bool]int{}, map[bool]int{}
	for range 5000 {
		turn := randomTurn(r)
		other := damagedTurn(r, turn)
		for _, tried := range []impl.Turn{turn, other, damagedTurn(r, other)} {
			is, on := checkTurn(t, tried)
			good[is]++
			if is {
				gone[on]++
			}
		}
	}
	if min(good[true], good[false]) < 2000 || min(gone[true], gone[false]) < 200 {
		t.Error("the turns are all of one kind", good, gone)
	}
}

func TestAllSmallWeights(t *testing.T) {
	for _, l := range smallLists(4, -1, 4) {
		checkWeights(t, l, 0, 1, 13)
	}
	for _, l := range smallLists(2, mostWeight-2, mostWeight+2) {
		checkWeights(t, l, 3)
	}
	for _, l := range smallLists(6, 0, 2) {
		checkWeights(t, l, 5)
	}
}

// All columns of at most three with all that is good or not in small numbers, all totals and draws about them.
func TestAllSmallColumns(t *testing.T) {
	var one []impl.Column
	for _, pair := range smallLists(2, -1, 3) {
		if len(pair) == 2 {
			one = append(one, impl.Column{Keep: pair[0], Other: pair[1]})
		}
	}
	check := func(l ...impl.Column) {
		for total := range 4 {
			checkColumns(t, l, total)
			for draw := -1; draw <= len(l)*total; draw++ {
				checkPick(t, l, total, draw)
			}
		}
	}
	check()
	for i, a := range one {
		check(a)
		for _, b := range one {
			check(a, b)
			check(a, b, one[(i*7+3)%len(one)])
			check(one[(i*11+5)%len(one)], a, b)
		}
	}
}

func TestAllSmallTurns(t *testing.T) {
	for _, weights := range smallLists(3, 0, 2) {
		for _, now := range smallLists(3, -2, 2) {
			turn := impl.Turn{Weights: weights, Now: now}
			checkTurn(t, turn)
			// The same about the bounds: two of them are still together 0 there.
			far := turnOf(weights, now...)
			for i := range far.Now {
				far.Now[i] += farNow * (1 - 2*(i%2))
			}
			checkTurn(t, far)
		}
	}
	for _, now := range smallLists(2, -2, 2) {
		if len(now) == 2 {
			for _, weights := range smallLists(4, 0, 2) {
				checkTurn(t, turnOf(weights, farNow+now[0], farNow+now[1], -farNow-now[0], -farNow-now[1]))
			}
		}
	}
}

func TestPickingAnswersAtWildArguments(t *testing.T) {
	edges := append(wildInts(), 0, 1, 2, 50, 51, 599, 600, 601, 7199, 7200, 7201, farNow, farNow+1, -farNow, -farNow-1)
	for _, a := range edges {
		checkWeights(t, slices.Repeat([]int{a}, 12), a)
		checkWeights(t, make([]int, 1<<12), a)
		for _, b := range edges {
			checkWeights(t, []int{a, b}, a, b)
			checkTurn(t, impl.Turn{Weights: []int{a, b}, Now: []int{b, a}})
			checkTurn(t, impl.Turn{Weights: []int{1, 2}, Now: []int{a, b}})
			checkTurn(t, impl.Turn{Weights: []int{1, 2, 3}, Now: []int{a, b, -a - b}})
			for _, l := range [][]impl.Column{nil, {}, {{}}, {{Keep: a, Other: b}}, {{Keep: a}, {Keep: b, Other: 1}}, {{Other: a}, {}}, make([]impl.Column, 12), make([]impl.Column, 13)} {
				checkColumns(t, l, a)
				checkPick(t, l, a, b)
				checkPick(t, l, 600, b)
			}
		}
	}
}

// withSpareInts puts numbers behind a list, in its memory.
func withSpareInts(l []int, spare ...int) []int {
	return append(slices.Clone(l), spare...)[:len(l)]
}

func withSpareColumns(l []impl.Column, spare ...impl.Column) []impl.Column {
	return append(slices.Clone(l), spare...)[:len(l)]
}

// wantZerosBehind looks at a list up to its end in memory.
func wantZerosBehind[T comparable](t *testing.T, l []T) {
	t.Helper()
	var zero T
	for _, one := range l[:cap(l)][len(l):] {
		if one != zero {
			t.Errorf("behind %v stands %v", l, one)
		}
	}
}

// What lies behind weights would make them good, or others: it does not count, and stays.
func TestNoWeightsAreWrittenInto(t *testing.T) {
	r := rand.New(rand.NewSource(128))
	lists := append(someWeights(), nil, []int{0}, []int{0, 0}, []int{51}, []int{-1}, make([]int, 12), make([]int, 13))
	for range 300 {
		l := randomWeights(r)
		lists = append(lists, l, damagedWeights(r, l))
	}
	for _, l := range lists {
		for _, spare := range [][]int{{1}, {50, 50}, {-1}, {51}, make([]int, 12)} {
			given := withSpareInts(l, spare...)
			before := slices.Clone(given[:cap(given)])
			checkWeights(t, given, 9)
			if !slices.Equal(given[:cap(given)], before) {
				t.Errorf("%v was written into: %v", before, given[:cap(given)])
			}
		}
	}
}

func TestNoColumnsAreWrittenInto(t *testing.T) {
	r := rand.New(rand.NewSource(129))
	for range 600 {
		total := 1 + r.Intn(30)
		l := randomColumns(r, total)
		for _, tried := range [][]impl.Column{l, damagedColumns(r, l, total), nil} {
			for _, spare := range []impl.Column{{Keep: 1}, {Keep: -1}, {Other: -1}, {Keep: total + 1, Other: len(tried)}} {
				given := withSpareColumns(tried, spare)
				before := slices.Clone(given[:cap(given)])
				checkColumns(t, given, total)
				for range 5 {
					checkPick(t, given, total, r.Intn(1+(len(tried)+1)*total)-1)
				}
				if !slices.Equal(given[:cap(given)], before) {
					t.Errorf("%v was written into: %v", before, given[:cap(given)])
				}
			}
		}
	}
}

func TestNoTurnIsWrittenInto(t *testing.T) {
	r := rand.New(rand.NewSource(130))
	for range 600 {
		turn := randomTurn(r)
		for _, tried := range []impl.Turn{turn, damagedTurn(r, turn), {}} {
			given := impl.Turn{Weights: withSpareInts(tried.Weights, 50, 50), Now: withSpareInts(tried.Now, 0, farNow)}
			weights, now := slices.Clone(given.Weights[:cap(given.Weights)]), slices.Clone(given.Now[:cap(given.Now)])
			checkTurn(t, given)
			if !slices.Equal(given.Weights[:cap(given.Weights)], weights) || !slices.Equal(given.Now[:cap(given.Now)], now) {
				t.Errorf("%v, %v were written into: %v", weights, now, given)
			}
		}
	}
}

// Each answer is written over up to its end in memory: neither what was given nor another answer may change by that.
func TestPickingAnswersShareNoMemory(t *testing.T) {
	r := rand.New(rand.NewSource(131))
	for range 500 {
		l := withSpareInts(randomWeights(r), 3, 3)
		before := slices.Clone(l[:cap(l)])
		total := totalOf(l)
		columns, _ := impl.AliasOf(l)
		columnsAgain, _ := impl.AliasOf(l)
		often, _ := impl.OftenIn(columns, total)
		oftenAgain, _ := impl.OftenIn(columns, total)
		picks, _ := impl.TurnsOf(l, 30)
		picksAgain, _ := impl.TurnsOf(l, 30)
		wantZerosBehind(t, columns)
		wantZerosBehind(t, often)
		wantZerosBehind(t, picks)
		writeOver(often, 77)
		writeOver(picks, 77)
		wantColumns(t, l, columns...)
		writeOver(columns, impl.Column{Keep: 77, Other: 77})
		wantColumns(t, l, columnsAgain...)
		wantOftenIs(t, columnsAgain, total, oftenAgain...)
		wantPicks(t, l, picksAgain...)
		if !slices.Equal(l[:cap(l)], before) {
			t.Errorf("an answer shares memory with %v", before)
		}
	}
}

// wantTurnApart writes over the one list, then over the other.
func wantTurnApart(t *testing.T, turn impl.Turn) {
	t.Helper()
	wantZerosBehind(t, turn.Weights)
	wantZerosBehind(t, turn.Now)
	before := turnOf(turn.Weights, turn.Now...)
	writeOver(turn.Weights, 77)
	if !slices.Equal(turn.Now, before.Now) {
		t.Errorf("the lists of %v share memory", before)
	}
	copy(turn.Weights, before.Weights)
	writeOver(turn.Now, 77)
	if !slices.Equal(turn.Weights, before.Weights) {
		t.Errorf("the lists of %v share memory", before)
	}
	writeOver(turn.Weights, 77)
}

func TestTurnsShareNoMemory(t *testing.T) {
	r := rand.New(rand.NewSource(132))
	apart := 0
	for range 500 {
		given := randomTurn(r)
		before := turnOf(given.Weights, given.Now...)
		first, _ := impl.NewTurn(given.Weights)
		again, _ := impl.NewTurn(given.Weights)
		wantTurnApart(t, first)
		if !alikeTurns(again, impl.Turn{Weights: before.Weights, Now: make([]int, len(before.Now))}) {
			t.Errorf("an answer shares memory with one told ahead: %v", again)
		}
		next, _, ok := impl.NextTurn(given)
		other, _, _ := impl.NextTurn(given)
		otherBefore := turnOf(other.Weights, other.Now...)
		if ok {
			apart++
			wantTurnApart(t, next)
		}
		if !alikeTurns(other, otherBefore) {
			t.Errorf("an answer shares memory with one told ahead: %v", other)
		}
		if !alikeTurns(given, before) {
			t.Errorf("an answer shares memory with %v", before)
		}
	}
	if apart < 200 {
		t.Error("the turns are all of one kind", apart)
	}
}

// Lists that lie in one memory when they are handed in are apart in the answer, and stay as they are.
func TestATurnOfOneMemory(t *testing.T) {
	whole := []int{5, 1, 0, 0, 0}
	turn := impl.Turn{Weights: whole[:3], Now: whole[2:]}
	wantNextIs(t, turn, 0, -1, 1, 0)
	next, _, _ := impl.NextTurn(turn)
	wantTurnApart(t, next)
	if !slices.Equal(whole, []int{5, 1, 0, 0, 0}) {
		t.Errorf("a turn was written into: %v", whole)
	}
}

// What is told hangs on the arguments alone, not on what was asked ahead.
func TestPickingIsToldAlikeEachTime(t *testing.T) {
	r := rand.New(rand.NewSource(133))
	weights, turn := []int{5, 0, 0, 5, 5}, turnOf([]int{5, 1, 1}, -4, 2, 2)
	for range 60 {
		checkWeights(t, weights, 20)
		checkTurn(t, turn)
		checkWeights(t, randomWeights(r), 20)
		checkTurn(t, randomTurn(r))
		checkPick(t, []impl.Column{{Keep: 2, Other: 1}, {Keep: 4, Other: 1}}, 4, 2)
	}
}
