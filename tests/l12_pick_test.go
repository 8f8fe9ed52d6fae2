package tests

import (
	"math/rand"
	"slices"
	"testing"

	"loop.example/g00300/impl"
)

// wantWeightsGood tells the weights.
func wantWeightsGood(t *testing.T, l ...int) []int {
	t.Helper()
	if !impl.GoodWeights(l) {
		t.Errorf("GoodWeights(%v) = false", l)
	}
	return l
}

// wantWeightsBad also asks whoever is given weights.
func wantWeightsBad(t *testing.T, l ...int) {
	t.Helper()
	if impl.GoodWeights(l) {
		t.Errorf("GoodWeights(%v) = true", l)
	}
	if columns, ok := impl.AliasOf(l); len(columns) != 0 || ok {
		t.Errorf("AliasOf(%v) = %v, %v", l, columns, ok)
	}
	if turn, ok := impl.NewTurn(l); !alikeTurns(turn, impl.Turn{}) || ok {
		t.Errorf("NewTurn(%v) = %v, %v", l, turn, ok)
	}
	for _, many := range []int{0, 1, 7} {
		if picks, ok := impl.TurnsOf(l, many); len(picks) != 0 || ok {
			t.Errorf("TurnsOf(%v, %d) = %v, %v", l, many, picks, ok)
		}
	}
	wantTurnBad(t, impl.Turn{Weights: l, Now: make([]int, len(l))})
}

func wantColumns(t *testing.T, weights []int, columns ...impl.Column) {
	t.Helper()
	if got, ok := impl.AliasOf(weights); !slices.Equal(got, columns) || !ok {
		t.Errorf("AliasOf(%v) = %v, %v; want %v", weights, got, ok, columns)
	}
}

// wantColumnsGood tells the columns.
func wantColumnsGood(t *testing.T, l ...impl.Column) []impl.Column {
	t.Helper()
	if !impl.GoodAlias(l) {
		t.Errorf("GoodAlias(%v) = false", l)
	}
	return l
}

// wantColumnsBad also asks whoever is given columns.
func wantColumnsBad(t *testing.T, l ...impl.Column) {
	t.Helper()
	if impl.GoodAlias(l) {
		t.Errorf("GoodAlias(%v) = true", l)
	}
	for _, total := range []int{1, 5, mostTotal} {
		wantNoDraws(t, l, total)
	}
}

func wantPicked(t *testing.T, l []impl.Column, total, draw, at int) {
	t.Helper()
	if got, ok := impl.PickBy(l, total, draw); got != at || !ok {
		t.Errorf("PickBy(%v, %d, %d) = %d, %v; want %d", l, total, draw, got, ok, at)
	}
}

func wantNotPicked(t *testing.T, l []impl.Column, total int, draws ...int) {
	t.Helper()
	for _, draw := range draws {
		if got, ok := impl.PickBy(l, total, draw); got != 0 || ok {
			t.Errorf("PickBy(%v, %d, %d) = %d, %v; want 0, false", l, total, draw, got, ok)
		}
	}
}

func wantOftenIs(t *testing.T, l []impl.Column, total int, often ...int) {
	t.Helper()
	if got, ok := impl.OftenIn(l, total); !slices.Equal(got, often) || !ok {
		t.Errorf("OftenIn(%v, %d) = %v, %v; want %v", l, total, got, ok, often)
	}
}

// wantNoDraws: neither is one picked nor are they counted.
func wantNoDraws(t *testing.T, l []impl.Column, total int) {
	t.Helper()
	if got, ok := impl.OftenIn(l, total); len(got) != 0 || ok {
		t.Errorf("OftenIn(%v, %d) = %v, %v", l, total, got, ok)
	}
	wantNotPicked(t, l, total, -1, 0, 1, total-1, total, len(l)*total-1, len(l)*total)
}

// wantTurnGood tells the turn.
func wantTurnGood(t *testing.T, weights []int, now ...int) impl.Turn {
	t.Helper()
	turn := impl.Turn{Weights: weights, Now: now}
	if !impl.GoodTurn(turn) {
		t.Errorf("GoodTurn(%v) = false", turn)
	}
	return turn
}

func wantTurnBad(t *testing.T, turn impl.Turn) {
	t.Helper()
	if impl.GoodTurn(turn) {
		t.Errorf("GoodTurn(%v) = true", turn)
	}
	wantNoNextTurn(t, turn)
}

func wantNextIs(t *testing.T, turn impl.Turn, picked int, now ...int) {
	t.Helper()
	got, at, ok := impl.NextTurn(turn)
	if !slices.Equal(got.Weights, turn.Weights) || !slices.Equal(got.Now, now) || at != picked || !ok {
		t.Errorf("NextTurn(%v) = %v, %d, %v; want %v, %d", turn, got, at, ok, now, picked)
	}
}

func wantNoNextTurn(t *testing.T, turn impl.Turn) {
	t.Helper()
	if got, at, ok := impl.NextTurn(turn); !alikeTurns(got, impl.Turn{}) || at != 0 || ok {
		t.Errorf("NextTurn(%v) = %v, %d, %v", turn, got, at, ok)
	}
}

func wantPicks(t *testing.T, weights []int, picks ...int) {
	t.Helper()
	if got, ok := impl.TurnsOf(weights, len(picks)); !slices.Equal(got, picks) || !ok {
		t.Errorf("TurnsOf(%v, %d) = %v, %v; want %v", weights, len(picks), got, ok, picks)
	}
}

// someWeights are weights at the edges, by hand.
func someWeights() [][]int {
	return [][]int{
		{1}, {50}, {1, 1}, {1, 3}, {3, 1}, {0, 1}, {1, 0}, {50, 0, 1}, {5, 1, 1}, {4, 2, 1}, {1, 4, 4}, {2, 4, 3}, {0, 4, 5}, {2, 1, 4, 5}, {5, 0, 0, 5, 5},
		{49, 50}, {50, 50, 50, 1}, {7, 7, 7, 7, 7}, {0, 0, 0, 0, 0, 0, 0, 0, 0, 0, 0, 1}, {50, 0, 0, 0, 0, 0, 0, 0, 0, 0, 0, 0},
		{0, 1, 2, 3, 4, 5, 6, 7, 8, 9, 10, 11}, {50, 49, 48, 2, 1, 0, 0, 1, 2, 48, 49, 50}, slices.Repeat([]int{50}, 12), slices.Repeat([]int{1}, 12),
	}
}

func TestWeightConstants(t *testing.T) {
	if impl.MaxWeights != mostWeights || impl.MaxWeight != mostWeight {
		t.Error(impl.MaxWeights, impl.MaxWeight)
	}
}

func TestGoodWeights(t *testing.T) {
	for _, l := range someWeights() {
		wantWeightsGood(t, l...)
	}
	wantWeightsGood(t, 1)
	wantWeightsGood(t, 49)
	wantWeightsGood(t, 50)
	wantWeightsGood(t, 0, 0, 1)
	wantWeightsGood(t, 1, 0, 0)
	wantWeightsGood(t, 50, 50, 50, 50, 50, 50, 50, 50, 50, 50, 50, 50)
}

func TestBadWeights(t *testing.T) {
	wantWeightsBad(t)
	wantWeightsBad(t, 0)
	wantWeightsBad(t, 0, 0)
	wantWeightsBad(t, make([]int, 12)...)
	wantWeightsBad(t, slices.Repeat([]int{1}, 13)...)
	wantWeightsBad(t, append(make([]int, 12), 1)...)
	wantWeightsBad(t, make([]int, 500)...)
	for _, bad := range append(wildInts(), -2, -50, 51, 52, 100, mostTotal) {
		wantWeightsBad(t, bad)
		wantWeightsBad(t, bad, 1)
		wantWeightsBad(t, 1, bad)
		wantWeightsBad(t, 1, bad, 50)
		// Numbers that come to 0, or to few, by taking from each other or by going round.
		wantWeightsBad(t, bad, bad, 2)
		wantWeightsBad(t, bad, -bad)
		wantWeightsBad(t, bad, 1-bad)
		wantWeightsBad(t, bad, 20-bad, 5)
	}
}

func TestAliasOfByHand(t *testing.T) {
	wantColumns(t, []int{1}, impl.Column{Keep: 1})
	wantColumns(t, []int{7}, impl.Column{Keep: 7})
	wantColumns(t, []int{50}, impl.Column{Keep: 50})
	wantColumns(t, []int{1, 3}, impl.Column{Keep: 2, Other: 1}, impl.Column{Keep: 4, Other: 1})
	wantColumns(t, []int{3, 1}, impl.Column{Keep: 4, Other: 0}, impl.Column{Keep: 2, Other: 0})
	wantColumns(t, []int{0, 1}, impl.Column{Keep: 0, Other: 1}, impl.Column{Keep: 1, Other: 1})
	wantColumns(t, []int{1, 0}, impl.Column{Keep: 1, Other: 0}, impl.Column{Keep: 0, Other: 0})
	wantColumns(t, []int{49, 50}, impl.Column{Keep: 98, Other: 1}, impl.Column{Keep: 99, Other: 1})
}

// Weights that are all alike have just what they need, each for itself.
func TestNothingIsLeftOverOfAlikeWeights(t *testing.T) {
	for many := 1; many <= mostWeights; many++ {
		for _, weight := range []int{1, 2, 7, 49, 50} {
			var own []impl.Column
			for i := range many {
				own = append(own, impl.Column{Keep: many * weight, Other: i})
			}
			wantColumns(t, slices.Repeat([]int{weight}, many), own...)
		}
	}
}

func TestAGreatOneFillsSeveral(t *testing.T) {
	wantColumns(t, []int{0, 0, 3}, impl.Column{Keep: 0, Other: 2}, impl.Column{Keep: 0, Other: 2}, impl.Column{Keep: 3, Other: 2})
	wantColumns(t, []int{1, 8, 1, 2}, impl.Column{Keep: 4, Other: 1}, impl.Column{Keep: 12, Other: 1}, impl.Column{Keep: 4, Other: 1}, impl.Column{Keep: 8, Other: 1})
	// All but one are 0, wherever that one stands.
	for at := range mostWeights {
		for _, weight := range []int{1, 50} {
			l, columns := make([]int, mostWeights), make([]impl.Column, mostWeights)
			l[at] = weight
			for i := range columns {
				columns[i].Other = at
			}
			columns[at].Keep = weight
			wantColumns(t, l, columns...)
		}
	}
}

// What was great gives so much that it needs some itself, and gets it of another.
func TestAGreatOneBecomesSmall(t *testing.T) {
	wantColumns(t, []int{1, 4, 4}, impl.Column{Keep: 3, Other: 1}, impl.Column{Keep: 6, Other: 2}, impl.Column{Keep: 9, Other: 2})
	// One behind the other: each fills the one ahead, and is filled by the next.
	wantColumns(t, []int{0, 5, 5, 5, 5}, impl.Column{Keep: 0, Other: 1}, impl.Column{Keep: 5, Other: 2}, impl.Column{Keep: 10, Other: 3}, impl.Column{Keep: 15, Other: 4}, impl.Column{Keep: 20, Other: 4})
	wantColumns(t, []int{5, 5, 5, 5, 0}, impl.Column{Keep: 5, Other: 1}, impl.Column{Keep: 10, Other: 2}, impl.Column{Keep: 15, Other: 3}, impl.Column{Keep: 20, Other: 3}, impl.Column{Keep: 0, Other: 0})
}

func TestOneComesToTotalExactly(t *testing.T) {
	wantColumns(t, []int{2, 4, 3}, impl.Column{Keep: 6, Other: 1}, impl.Column{Keep: 9, Other: 1}, impl.Column{Keep: 9, Other: 2})
	// The first great one is full behind that, and gives no more: the second one does.
	wantColumns(t, []int{3, 1, 1, 3}, impl.Column{Keep: 8, Other: 0}, impl.Column{Keep: 4, Other: 0}, impl.Column{Keep: 4, Other: 3}, impl.Column{Keep: 8, Other: 3})
}

func TestTheFirstGreatOneGives(t *testing.T) {
	// Neither the last one nor the greatest one.
	wantColumns(t, []int{0, 4, 5}, impl.Column{Keep: 0, Other: 1}, impl.Column{Keep: 3, Other: 2}, impl.Column{Keep: 9, Other: 2})
	// Nor the least of those that are great.
	wantColumns(t, []int{0, 5, 4}, impl.Column{Keep: 0, Other: 1}, impl.Column{Keep: 6, Other: 2}, impl.Column{Keep: 9, Other: 2})
	// Nor the first one behind what it fills.
	wantColumns(t, []int{4, 0, 5}, impl.Column{Keep: 3, Other: 2}, impl.Column{Keep: 0, Other: 0}, impl.Column{Keep: 9, Other: 2})
}

func TestTheFirstSmallOneIsFilled(t *testing.T) {
	// Neither the least one nor the last one.
	wantColumns(t, []int{2, 1, 4, 5}, impl.Column{Keep: 8, Other: 2}, impl.Column{Keep: 4, Other: 3}, impl.Column{Keep: 12, Other: 2}, impl.Column{Keep: 12, Other: 3})
	// One that becomes small ahead of the others is the first one then, not the last.
	wantColumns(t, []int{5, 0, 0, 5, 5}, impl.Column{Keep: 10, Other: 3}, impl.Column{Keep: 0, Other: 0}, impl.Column{Keep: 0, Other: 3}, impl.Column{Keep: 5, Other: 4}, impl.Column{Keep: 15, Other: 4})
	wantColumns(t, []int{0, 5, 0, 5, 5}, impl.Column{Keep: 0, Other: 1}, impl.Column{Keep: 10, Other: 3}, impl.Column{Keep: 0, Other: 3}, impl.Column{Keep: 5, Other: 4}, impl.Column{Keep: 15, Other: 4})
	// One that becomes small behind the others is not: they are filled ahead of it.
	wantColumns(t, []int{0, 0, 5, 5, 5}, impl.Column{Keep: 0, Other: 2}, impl.Column{Keep: 0, Other: 3}, impl.Column{Keep: 10, Other: 4}, impl.Column{Keep: 10, Other: 4}, impl.Column{Keep: 15, Other: 4})
}

func TestGoodColumns(t *testing.T) {
	wantColumnsGood(t, impl.Column{})
	wantColumnsGood(t, impl.Column{Keep: 1})
	wantColumnsGood(t, make([]impl.Column, 12)...)
	wantColumnsGood(t, slices.Repeat([]impl.Column{{Keep: mostTotal, Other: 11}}, 12)...)
	for other := range 3 {
		wantColumnsGood(t, impl.Column{Other: other}, impl.Column{Other: other}, impl.Column{Other: other})
	}
	// How much may be kept hangs on a total, of which GoodAlias knows nothing.
	wantColumnsGood(t, impl.Column{Keep: mostTotal + 1}, impl.Column{Keep: 1 << 62, Other: 1})
	for _, l := range someWeights() {
		columns, _ := impl.AliasOf(l)
		wantColumnsGood(t, columns...)
	}
}

func TestBadColumns(t *testing.T) {
	wantColumnsBad(t)
	wantColumnsBad(t, make([]impl.Column, 13)...)
	wantColumnsBad(t, make([]impl.Column, 500)...)
	for at := range 3 {
		for _, c := range []impl.Column{{Keep: -1}, {Keep: -1, Other: 2}, {Other: -1}, {Other: 3}, {Other: 4}, {Other: 12}, {Keep: -1, Other: 3}} {
			l := []impl.Column{{Keep: 1}, {Keep: 1}, {Keep: 1}}
			l[at] = c
			wantColumnsBad(t, l...)
		}
		for _, wild := range wildInts() {
			l := []impl.Column{{Keep: 1}, {Keep: 1}, {Keep: 1}}
			l[at].Other = wild
			wantColumnsBad(t, l...)
		}
	}
	wantColumnsBad(t, impl.Column{Other: 1})
	wantColumnsBad(t, append(make([]impl.Column, 11), impl.Column{Other: 12})...)
}

func TestPickByByHand(t *testing.T) {
	l := []impl.Column{{Keep: 2, Other: 1}, {Keep: 4, Other: 1}}
	for draw, at := range []int{0, 0, 1, 1, 1, 1, 1, 1} {
		wantPicked(t, l, 4, draw, at)
	}
	wantNotPicked(t, l, 4, -1, 8, 9, 100)
	// Both sides of Keep in each column, none kept, all but one, all.
	l = []impl.Column{{Keep: 0, Other: 2}, {Keep: 2, Other: 0}, {Keep: 3, Other: 1}}
	for draw, at := range []int{2, 2, 2, 1, 1, 0, 2, 2, 2} {
		wantPicked(t, l, 3, draw, at)
	}
	wantNotPicked(t, l, 3, -1, 9)
	// A total that is more than all that is kept, and an Other that is the column itself.
	l = []impl.Column{{Keep: 1, Other: 0}, {Keep: 0, Other: 0}}
	for draw, at := range []int{0, 0, 0, 0, 0, 0, 0, 0, 0, 0} {
		wantPicked(t, l, 5, draw, at)
	}
	wantNotPicked(t, l, 5, -1, 10)
}

func TestTheEdgesOfTotals(t *testing.T) {
	one := []impl.Column{{Keep: 1}}
	wantPicked(t, one, 1, 0, 0)
	wantNotPicked(t, one, 1, -1, 1)
	wantOftenIs(t, one, 1, 1)
	wantPicked(t, one, 600, 599, 0)
	wantNotPicked(t, one, 600, -1, 600)
	wantOftenIs(t, one, 600, 600)
	two := []impl.Column{{Keep: 1, Other: 1}, {Keep: 0, Other: 0}}
	wantPicked(t, two, 1, 0, 0)
	wantPicked(t, two, 1, 1, 0)
	wantOftenIs(t, two, 1, 2, 0)
	for _, total := range append(wildInts(), 0, 601, 602, 1200) {
		wantNoDraws(t, one, total)
		wantNoDraws(t, two, total)
		wantNoDraws(t, make([]impl.Column, 12), total)
	}
	for _, draw := range wildInts() {
		wantNotPicked(t, one, 1, draw)
		wantNotPicked(t, make([]impl.Column, 12), 600, draw)
	}
	// A total and a draw whose product or sum goes round.
	wantNotPicked(t, make([]impl.Column, 4), 1<<62, 0, 1, 1<<62)
	wantNotPicked(t, make([]impl.Column, 2), 1<<63-1, 0, 1)
}

func TestTheMostColumnsOfTheMostParts(t *testing.T) {
	l := make([]impl.Column, 12)
	for i := range l {
		l[i] = impl.Column{Keep: 300 + i, Other: 11 - i}
	}
	for i := range l {
		wantPicked(t, l, 600, 600*i, i)
		wantPicked(t, l, 600, 600*i+299+i, i)
		wantPicked(t, l, 600, 600*i+300+i, 11-i)
		wantPicked(t, l, 600, 600*i+599, 11-i)
	}
	wantNotPicked(t, l, 600, -1, 7200, 7201)
	var often []int
	for i := range l {
		often = append(often, 300+i+300-(11-i))
	}
	wantOftenIs(t, l, 600, often...)
}

func TestKeepUpToTotal(t *testing.T) {
	for _, total := range []int{1, 2, 599, 600} {
		for at := range 3 {
			l := []impl.Column{{Other: 1}, {Other: 2}, {Other: 0}}
			l[at].Keep = total
			wantPicked(t, l, total, at*total, at)
			wantPicked(t, l, total, at*total+total-1, at)
			l[at].Keep = total - 1
			wantPicked(t, l, total, at*total+total-1, (at+1)%3)
			for _, keep := range []int{total + 1, total + 2, 1<<63 - 1} {
				l[at].Keep = keep
				wantNoDraws(t, wantColumnsGood(t, l...), total)
			}
		}
	}
}

func TestOftenInByHand(t *testing.T) {
	wantOftenIs(t, []impl.Column{{Keep: 2, Other: 1}, {Keep: 4, Other: 1}}, 4, 2, 6)
	wantOftenIs(t, []impl.Column{{Keep: 2, Other: 1}, {Keep: 4, Other: 1}}, 5, 2, 8)
	wantOftenIs(t, []impl.Column{{}, {}, {}}, 7, 21, 0, 0)
	wantOftenIs(t, []impl.Column{{Keep: 7}, {Keep: 7}, {Keep: 7}}, 7, 7, 7, 7)
	wantOftenIs(t, []impl.Column{{Keep: 0, Other: 2}, {Keep: 2, Other: 0}, {Keep: 3, Other: 1}}, 3, 1, 2, 6)
	wantOftenIs(t, []impl.Column{{Keep: 3, Other: 0}, {Keep: 0, Other: 1}}, 10, 10, 10)
}

// countDraws asks for each draw that there is, and for those beside them.
func countDraws(t *testing.T, l []impl.Column, total int) []int {
	t.Helper()
	often := make([]int, len(l))
	for draw := range len(l) * total {
		at, ok := impl.PickBy(l, total, draw)
		if !ok || at < 0 || at >= len(l) {
			t.Fatalf("PickBy(%v, %d, %d) = %d, %v", l, total, draw, at, ok)
		}
		often[at]++
	}
	wantNotPicked(t, l, total, -1, len(l)*total)
	return often
}

// Promise 12: of all draws each is picked just in the part that it weighs.
func TestEachIsPickedInThePartThatItWeighs(t *testing.T) {
	check := func(l []int) {
		t.Helper()
		columns, ok := impl.AliasOf(l)
		if !ok || len(columns) != len(l) {
			t.Fatalf("AliasOf(%v) = %v, %v", l, columns, ok)
		}
		total := totalOf(l)
		want := make([]int, len(l))
		for i, weight := range l {
			want[i] = weight * len(l)
		}
		if often := countDraws(t, columns, total); !slices.Equal(often, want) {
			t.Errorf("of %v by %v each is picked %v times; want %v", l, columns, often, want)
		}
		wantOftenIs(t, columns, total, want...)
		for i, c := range columns {
			if c.Keep < 0 || c.Keep > total || (c.Keep == total) != (c.Other == i) {
				t.Errorf("AliasOf(%v)[%d] = %v of %d parts", l, i, c, total)
			}
		}
	}
	for _, l := range someWeights() {
		check(l)
	}
	for _, l := range smallLists(4, 0, 4) {
		if wantGoodWeights(l) {
			check(l)
		}
	}
	r := rand.New(rand.NewSource(121))
	for range 1500 {
		check(randomWeights(r))
	}
}

// OftenIn counts what PickBy tells, also of columns that no weights have.
func TestOftenInIsHeldAgainstAllDraws(t *testing.T) {
	r := rand.New(rand.NewSource(122))
	for range 1500 {
		total := []int{1, 2, 3, 599, 600, 1 + r.Intn(mostTotal)}[r.Intn(6)]
		l := randomColumns(r, total)
		wantOftenIs(t, l, total, countDraws(t, l, total)...)
	}
}

func TestNewTurn(t *testing.T) {
	for _, l := range someWeights() {
		turn, ok := impl.NewTurn(l)
		if !ok || !alikeTurns(turn, impl.Turn{Weights: l, Now: make([]int, len(l))}) {
			t.Errorf("NewTurn(%v) = %v, %v", l, turn, ok)
		}
		wantTurnGood(t, turn.Weights, turn.Now...)
	}
}

func TestGoodTurns(t *testing.T) {
	wantTurnGood(t, []int{1}, 0)
	wantTurnGood(t, []int{1, 0}, 0, 0)
	wantTurnGood(t, []int{1, 0}, 1, -1)
	wantTurnGood(t, []int{1, 2}, 10000, -10000)
	wantTurnGood(t, []int{1, 2}, -10000, 10000)
	wantTurnGood(t, []int{1, 2, 3}, -9999, 10000, -1)
	wantTurnGood(t, make12(1), make12(0)...)
	wantTurnGood(t, make12(50), 10000, -10000, 10000, -10000, 10000, -10000, 10000, -10000, 10000, -10000, 10000, -10000)
}

func make12(n int) []int {
	return slices.Repeat([]int{n}, 12)
}

func TestBadTurns(t *testing.T) {
	wantTurnBad(t, impl.Turn{})
	// Not together 0.
	wantTurnBad(t, turnOf([]int{1}, 1))
	wantTurnBad(t, turnOf([]int{1}, -1))
	wantTurnBad(t, turnOf([]int{1, 2}, 5, -4))
	wantTurnBad(t, turnOf([]int{1, 2}, 5, -6))
	wantTurnBad(t, turnOf([]int{1, 2, 3}, 10000, -10000, 1))
	wantTurnBad(t, turnOf([]int{1, 2, 3}, 0, 0, 10000))
	// Too far.
	wantTurnBad(t, turnOf([]int{1, 2}, 10001, -10001))
	wantTurnBad(t, turnOf([]int{1, 2}, -10001, 10001))
	wantTurnBad(t, turnOf([]int{1, 2, 3}, 10001, -10000, -1))
	wantTurnBad(t, turnOf([]int{1, 2, 3}, 1, 10000, -10001))
	// Not as many as weights.
	wantTurnBad(t, turnOf([]int{1, 2}, 0))
	wantTurnBad(t, turnOf([]int{1, 2}, 0, 0, 0))
	wantTurnBad(t, turnOf([]int{1, 2}))
	wantTurnBad(t, turnOf([]int{1}))
	wantTurnBad(t, turnOf(nil, 0))
	wantTurnBad(t, turnOf(make12(1), make([]int, 11)...))
	wantTurnBad(t, turnOf(make12(1), make([]int, 13)...))
	wantTurnBad(t, turnOf(slices.Repeat([]int{1}, 13), make([]int, 13)...))
	// Weights that are not good.
	wantTurnBad(t, turnOf([]int{0}, 0))
	wantTurnBad(t, turnOf([]int{0, 0}, 1, -1))
	wantTurnBad(t, turnOf([]int{51, 1}, 0, 0))
	wantTurnBad(t, turnOf([]int{-1, 5}, 0, 0))
	for _, wild := range wildInts() {
		wantTurnBad(t, turnOf([]int{wild, 1}, 0, 0))
		wantTurnBad(t, turnOf([]int{2, 1}, wild, 0))
		wantTurnBad(t, turnOf([]int{2, 1}, 0, wild))
	}
	// Numbers that only come to 0 by going round, or that would by their own.
	wantTurnBad(t, turnOf([]int{1, 1}, -1<<63, -1<<63))
	wantTurnBad(t, turnOf([]int{1, 1, 1}, 1<<63-1, 1<<63-1, 2))
	wantTurnBad(t, turnOf([]int{1, 1, 1}, 1<<63-1, -1<<63, 1))
	wantTurnBad(t, turnOf([]int{1, 1}, 1<<63-1, -1<<63+1))
}

func TestNextTurnByHand(t *testing.T) {
	wantNextIs(t, turnOf([]int{5, 1, 1}, 0, 0, 0), 0, -2, 1, 1)
	wantNextIs(t, turnOf([]int{5, 1, 1}, -2, 1, 1), 0, -4, 2, 2)
	wantNextIs(t, turnOf([]int{5, 1, 1}, -4, 2, 2), 1, 1, -4, 3)
	wantNextIs(t, turnOf([]int{7}, 0), 0, 0)
	wantNextIs(t, turnOf([]int{0, 1}, 0, 0), 1, 0, 0)
	// One of no weight is picked, too, where it is ahead; and the same weights go on from anywhere.
	wantNextIs(t, turnOf([]int{0, 1}, 5, -5), 0, 4, -4)
	wantNextIs(t, turnOf([]int{50, 0}, -100, 100), 1, -50, 50)
}

func TestTheFirstOfTheGreatestIsPicked(t *testing.T) {
	wantNextIs(t, turnOf([]int{1, 1}, 0, 0), 0, -1, 1)
	wantNextIs(t, turnOf([]int{1, 2, 2, 1}, 0, 0, 0, 0), 1, 1, -4, 2, 1)
	// They are alike behind what comes to them, not ahead of it.
	wantNextIs(t, turnOf([]int{1, 3, 2}, 2, 0, -2), 0, -3, 3, 0)
	wantNextIs(t, turnOf([]int{1, 3, 2}, 1, 0, -1), 1, 2, -3, 1)
	wantNextIs(t, turnOf(make12(50), make12(0)...), 0, -550, 50, 50, 50, 50, 50, 50, 50, 50, 50, 50, 50)
}

func TestNowStaysInItsBounds(t *testing.T) {
	// What is picked may go beyond ahead of becoming total less.
	wantNextIs(t, turnOf([]int{50, 50}, 10000, -10000), 0, 9950, -9950)
	wantNextIs(t, turnOf([]int{1, 0}, 10000, -10000), 0, 10000, -10000)
	wantNextIs(t, turnOf([]int{0, 1, 0, 0}, 10000, 10000, -10000, -10000), 1, 10000, 10000, -10000, -10000)
	wantNextIs(t, turnOf([]int{1, 1, 0, 0}, 9999, 9999, -9998, -10000), 0, 9998, 10000, -9998, -10000)
	// What is not picked may come up to the bound, but not beyond it.
	wantNextIs(t, turnOf([]int{2, 1, 0, 0}, 9999, 9999, -9998, -10000), 0, 9998, 10000, -9998, -10000)
	wantNoNextTurn(t, wantTurnGood(t, []int{2, 2, 0, 0}, 9999, 9999, -9998, -10000))
	wantNoNextTurn(t, wantTurnGood(t, []int{1, 1, 1, 1}, 10000, 10000, -10000, -10000))
	wantNoNextTurn(t, wantTurnGood(t, []int{0, 50, 21, 0}, -10000, 9980, 9980, -9960))
	wantNoNextTurn(t, wantTurnGood(t, []int{1, 2, 0, 0}, 10000, 10000, -10000, -10000))
	wantNoNextTurn(t, wantTurnGood(t, []int{50, 49, 0, 0}, 9999, 9952, -9951, -10000))
}

// The greatest Now is above 0 where all come to total together, so that it is never less than -600 behind that: no turn goes beyond -10000.
func TestNoTurnGoesBeyondTheLowerBound(t *testing.T) {
	wantNextIs(t, turnOf([]int{0, 0, 50}, -10000, 5000, 5000), 2, -10000, 5000, 5000)
	wantNextIs(t, turnOf([]int{1, 0}, -10000, 10000), 1, -9999, 9999)
	r := rand.New(rand.NewSource(123))
	refused := 0
	for range 20000 {
		turn := randomTurn(r)
		next, picked, ok := impl.NextTurn(turn)
		if !ok {
			refused++
			continue
		}
		if next.Now[picked] <= -mostTotal || slices.Min(next.Now) < min(slices.Min(turn.Now), -mostTotal) {
			t.Errorf("NextTurn(%v) = %v, %d", turn, next, picked)
		}
	}
	if refused < 500 {
		t.Error("the turns are all of one kind", refused)
	}
}

func TestTurnsOfByHand(t *testing.T) {
	wantPicks(t, []int{5, 1, 1}, 0, 0, 1, 0, 2, 0, 0, 0, 0, 1, 0)
	wantPicks(t, []int{4, 2, 1}, 0, 1, 0, 2, 0, 1, 0)
	wantPicks(t, []int{1, 1, 1}, 0, 1, 2, 0, 1, 2)
	wantPicks(t, []int{1, 2}, 1, 0, 1, 1, 0, 1)
	wantPicks(t, []int{0, 3, 0}, 1, 1, 1, 1)
	wantPicks(t, []int{7}, 0, 0, 0)
	wantPicks(t, make12(50), 0, 1, 2, 3, 4, 5, 6, 7, 8, 9, 10, 11, 0, 1)
}

func TestHowManyTurns(t *testing.T) {
	for _, l := range someWeights() {
		most, ok := impl.TurnsOf(l, 600)
		if len(most) != 600 || !ok {
			t.Fatalf("TurnsOf(%v, 600) = %v, %v", l, most, ok)
		}
		// Fewer of them are the beginning.
		for _, many := range []int{0, 1, 2, 7, 599} {
			if picks, ok := impl.TurnsOf(l, many); !slices.Equal(picks, most[:many]) || !ok {
				t.Errorf("TurnsOf(%v, %d) = %v, %v", l, many, picks, ok)
			}
		}
		for _, many := range append(wildInts(), 601, 602, 1200) {
			if picks, ok := impl.TurnsOf(l, many); len(picks) != 0 || ok {
				t.Errorf("TurnsOf(%v, %d) = %v, %v", l, many, picks, ok)
			}
		}
	}
}

// Promise 12: in as many turns as all weights together each is picked as often as it weighs; all Now are 0 then, and not ahead of it.
func TestEachHasAsManyTurnsAsItWeighs(t *testing.T) {
	check := func(l []int) {
		t.Helper()
		total := totalOf(l)
		picks, ok := impl.TurnsOf(l, total)
		turn, _ := impl.NewTurn(l)
		often := make([]int, len(l))
		for i, at := range picks {
			next, picked, good := impl.NextTurn(turn)
			if picked != at || !good {
				t.Fatalf("TurnsOf(%v, %d)[%d] = %d; NextTurn(%v) picks %d, %v", l, total, i, at, turn, picked, good)
			}
			often[at]++
			turn = next
		}
		if !ok || !slices.Equal(often, l) {
			t.Errorf("TurnsOf(%v, %d) = %v, %v: %v times", l, total, picks, ok, often)
		}
		if !alikeTurns(turn, impl.Turn{Weights: l, Now: make([]int, len(l))}) {
			t.Errorf("behind %d turns of %v it is %v", total, l, turn)
		}
	}
	for _, l := range someWeights() {
		check(l)
	}
	for _, l := range smallLists(4, 0, 4) {
		if wantGoodWeights(l) {
			check(l)
		}
	}
	r := rand.New(rand.NewSource(124))
	for range 1500 {
		check(randomWeights(r))
	}
}

// smallLists are all lists of at most so many numbers from least to most.
func smallLists(many, least, most int) [][]int {
	all, last := [][]int{nil}, [][]int{nil}
	for range many {
		var longer [][]int
		for _, l := range last {
			for n := least; n <= most; n++ {
				longer = append(longer, append(slices.Clone(l), n))
			}
		}
		all, last = append(all, longer...), longer
	}
	return all
}
