package tests

import (
	"math"
	"math/big"
	"math/rand"
	"slices"
)

// The model has its own numbers, so that the program's constants are asked for, too.
const (
	allSerials   = 1 << 32
	halfSerials  = 1 << 31
	mostCounter  = 1 << 60
	mostToChoose = 20
)

func wantSerial(n int) bool {
	return n >= 0 && n < allSerials
}

func wantCounter(n int) bool {
	return n >= 0 && n <= mostCounter
}

// Great numbers, so that nothing in the model itself goes round.
func leftOf(n *big.Int) int {
	return int(new(big.Int).Mod(n, big.NewInt(allSerials)).Int64())
}

func wantSum(s, n int) (int, bool) {
	if !wantSerial(s) || n < 0 || n >= halfSerials {
		return 0, false
	}
	return leftOf(new(big.Int).Add(big.NewInt(int64(s)), big.NewInt(int64(n)))), true
}

// As RFC 1982 has it, section 3.2, by cases and without going round.
func wantLess(a, b int) (bool, bool) {
	if !wantSerial(a) || !wantSerial(b) || a-b == halfSerials || b-a == halfSerials {
		return false, false
	}
	return a < b && b-a < halfSerials || a > b && a-b > halfSerials, true
}

func wantSteps(a, b int) (int, bool) {
	if !wantSerial(a) || !wantSerial(b) {
		return 0, false
	}
	return leftOf(new(big.Int).Sub(big.NewInt(int64(b)), big.NewInt(int64(a)))), true
}

func wantSerialOf(counter int) (int, bool) {
	if !wantCounter(counter) {
		return 0, false
	}
	return leftOf(big.NewInt(int64(counter))), true
}

func wantNewest(l []int) (int, bool) {
	if len(l) < 1 || len(l) > mostToChoose || slices.ContainsFunc(l, func(n int) bool { return !wantSerial(n) }) {
		return 0, false
	}
	for _, s := range l {
		beaten := slices.ContainsFunc(l, func(other int) bool {
			less, told := wantLess(s, other)
			return less || !told
		})
		if !beaten {
			return s, true
		}
	}
	return 0, false
}

// All counters of the serial in some rounds about near are tried, nearest first.
func wantCounterFor(serial, near int) (int, bool) {
	if !wantSerial(serial) || !wantCounter(near) {
		return 0, false
	}
	tried := []int{}
	for round := near/allSerials - 3; round <= near/allSerials+3; round++ {
		if c := round*allSerials + serial; wantCounter(c) {
			tried = append(tried, c)
		}
	}
	far := func(c int) int { return max(c-near, near-c) }
	slices.SortFunc(tried, func(a, b int) int {
		if far(a) != far(b) {
			return far(a) - far(b)
		}
		return a - b
	})
	return tried[0], true
}

// serialEdges are serials about the places where something turns.
func serialEdges() []int {
	return []int{0, 1, 2, 5, halfSerials - 2, halfSerials - 1, halfSerials, halfSerials + 1, halfSerials + 5, allSerials - 2, allSerials - 1}
}

func badSerials() []int {
	return []int{-1, -2, -halfSerials, -allSerials, allSerials, allSerials + 1, 2 * allSerials, mostCounter, math.MaxInt, math.MinInt, math.MinInt + 1, math.MaxInt - 1}
}

func counterEdges() []int {
	edges := []int{0, 1, mostCounter, mostCounter - 1}
	for _, s := range serialEdges() {
		edges = append(edges, s, allSerials+s, 7*allSerials+s, mostCounter-s, mostCounter-allSerials-s)
	}
	return edges
}

func badCounters() []int {
	return []int{-1, -2, -halfSerials, -allSerials, -mostCounter, mostCounter + 1, mostCounter + allSerials, 2 * mostCounter, math.MaxInt, math.MinInt, math.MaxInt - 1, math.MinInt + 1}
}

// randomInt leans on the edges, so that good and bad numbers both come often.
func randomInt(r *rand.Rand) int {
	edges := append(append(counterEdges(), badCounters()...), badSerials()...)
	switch r.Intn(5) {
	case 0:
		return r.Intn(allSerials)
	case 1:
		return r.Intn(mostCounter + 1)
	case 2:
		return int(r.Uint64())
	default:
		return edges[r.Intn(len(edges))] + r.Intn(5) - 2
	}
}

func randomSerial(r *rand.Rand) int {
	if r.Intn(2) == 0 {
		return r.Intn(allSerials)
	}
	return (serialEdges()[r.Intn(len(serialEdges()))] + r.Intn(9) - 4 + allSerials) % allSerials
}

// serialsNear are some that lie less than half round apart, in any order, so that one of them is the newest.
func serialsNear(r *rand.Rand, many int) []int {
	from := randomSerial(r)
	l := make([]int, many)
	for i := range l {
		l[i] = (from + r.Intn(1+r.Intn(halfSerials))) % allSerials
	}
	return l
}
