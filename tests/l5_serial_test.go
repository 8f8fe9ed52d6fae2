package tests

import (
	"math"
	"math/rand"
	"slices"
	"testing"

	"loop.example/g00300/impl"
)

func wantAdded(t *testing.T, s, n, sum int) {
	t.Helper()
	if got, ok := impl.SerialAdd(s, n); got != sum || !ok {
		t.Errorf("SerialAdd(%d, %d) = %d, %v; want %d", s, n, got, ok, sum)
	}
}

func wantNotAdded(t *testing.T, s, n int) {
	t.Helper()
	if got, ok := impl.SerialAdd(s, n); got != 0 || ok {
		t.Errorf("SerialAdd(%d, %d) = %d, %v; want 0, false", s, n, got, ok)
	}
}

func wantOlder(t *testing.T, a, b int, less, told bool) {
	t.Helper()
	if got, ok := impl.SerialLess(a, b); got != less || ok != told {
		t.Errorf("SerialLess(%d, %d) = %v, %v; want %v, %v", a, b, got, ok, less, told)
	}
}

func wantNewestIs(t *testing.T, newest int, l ...int) {
	t.Helper()
	if got, ok := impl.NewestOf(l); got != newest || !ok {
		t.Errorf("NewestOf(%v) = %d, %v; want %d", l, got, ok, newest)
	}
}

func wantNoNewest(t *testing.T, l ...int) {
	t.Helper()
	if got, ok := impl.NewestOf(l); got != 0 || ok {
		t.Errorf("NewestOf(%v) = %d, %v; want 0, false", l, got, ok)
	}
}

func wantNear(t *testing.T, serial, near, counter int) {
	t.Helper()
	if got, ok := impl.CounterFor(serial, near); got != counter || !ok {
		t.Errorf("CounterFor(%d, %d) = %d, %v; want %d", serial, near, got, ok, counter)
	}
}

func TestSerialConstants(t *testing.T) {
	if impl.SerialSize != allSerials || impl.HalfSerial != halfSerials {
		t.Error(impl.SerialSize, impl.HalfSerial)
	}
}

func TestSerialAdd(t *testing.T) {
	wantAdded(t, 0, 0, 0)
	wantAdded(t, 5, 7, 12)
	wantAdded(t, 0, halfSerials-1, halfSerials-1)
	wantAdded(t, 1, halfSerials-1, halfSerials)
	wantAdded(t, halfSerials, halfSerials-1, allSerials-1)
	wantAdded(t, allSerials-1, 0, allSerials-1)
}

func TestSumsThatGoRound(t *testing.T) {
	wantAdded(t, allSerials-1, 1, 0)
	wantAdded(t, allSerials-1, 2, 1)
	wantAdded(t, allSerials-2, 1, allSerials-1)
	wantAdded(t, allSerials-2, 2, 0)
	wantAdded(t, halfSerials+1, halfSerials-1, 0)
	wantAdded(t, halfSerials+2, halfSerials-1, 1)
	wantAdded(t, allSerials-1, halfSerials-1, halfSerials-2)
}

func TestSerialAddRefuses(t *testing.T) {
	for _, s := range badSerials() {
		for _, n := range []int{0, 1, halfSerials - 1, halfSerials, -1} {
			wantNotAdded(t, s, n)
		}
	}
	for _, s := range serialEdges() {
		for _, n := range append(badSerials(), halfSerials, halfSerials+1, allSerials-1) {
			wantNotAdded(t, s, n)
		}
	}
}

func TestSerialLessByHand(t *testing.T) {
	wantOlder(t, 0, 1, true, true)
	wantOlder(t, 1, 0, false, true)
	wantOlder(t, 44, 44+100, true, true)
	wantOlder(t, allSerials-1, 0, true, true)
	wantOlder(t, 0, allSerials-1, false, true)
	wantOlder(t, allSerials-1, 2, true, true)
	wantOlder(t, 0, halfSerials-1, true, true)
	wantOlder(t, halfSerials-1, 0, false, true)
	wantOlder(t, 0, halfSerials, false, false)
	wantOlder(t, halfSerials, 0, false, false)
	wantOlder(t, 0, halfSerials+1, false, true)
	wantOlder(t, halfSerials+1, 0, true, true)
	wantOlder(t, halfSerials-1, allSerials-1, false, false)
	wantOlder(t, allSerials-1, halfSerials-1, false, false)
	wantOlder(t, halfSerials-1, allSerials-2, true, true)
}

// Each edge with what lies so far ahead of it, each way round.
func TestSerialsSoFarApart(t *testing.T) {
	apart := []struct {
		steps              int
		ahead, back, tells bool
	}{
		{0, false, false, true}, {1, true, false, true}, {halfSerials - 1, true, false, true},
		{halfSerials, false, false, false}, {halfSerials + 1, false, true, true}, {allSerials - 1, false, true, true},
	}
	for _, a := range serialEdges() {
		for _, far := range apart {
			b := (a + far.steps) % allSerials
			wantOlder(t, a, b, far.ahead, far.tells)
			wantOlder(t, b, a, far.back, far.tells)
			if steps, ok := impl.StepsBetween(a, b); steps != far.steps || !ok {
				t.Errorf("StepsBetween(%d, %d) = %d, %v", a, b, steps, ok)
			}
			if steps, ok := impl.StepsBetween(b, a); steps != (allSerials-far.steps)%allSerials || !ok {
				t.Errorf("StepsBetween(%d, %d) = %d, %v", b, a, steps, ok)
			}
		}
	}
}

func TestPairsWithNoSerial(t *testing.T) {
	for _, bad := range badSerials() {
		for _, s := range append(serialEdges(), badSerials()...) {
			wantOlder(t, bad, s, false, false)
			wantOlder(t, s, bad, false, false)
			if steps, ok := impl.StepsBetween(bad, s); steps != 0 || ok {
				t.Errorf("StepsBetween(%d, %d) = %d, %v", bad, s, steps, ok)
			}
			if steps, ok := impl.StepsBetween(s, bad); steps != 0 || ok {
				t.Errorf("StepsBetween(%d, %d) = %d, %v", s, bad, steps, ok)
			}
		}
	}
}

func TestSerialOf(t *testing.T) {
	told := [][2]int{
		{0, 0}, {1, 1}, {allSerials - 1, allSerials - 1}, {allSerials, 0}, {allSerials + 1, 1}, {2*allSerials - 1, allSerials - 1},
		{2 * allSerials, 0}, {7*allSerials + halfSerials, halfSerials}, {mostCounter - 1, allSerials - 1}, {mostCounter, 0},
	}
	for _, pair := range told {
		if s, ok := impl.SerialOf(pair[0]); s != pair[1] || !ok {
			t.Errorf("SerialOf(%d) = %d, %v; want %d", pair[0], s, ok, pair[1])
		}
	}
	for _, bad := range badCounters() {
		if s, ok := impl.SerialOf(bad); s != 0 || ok {
			t.Errorf("SerialOf(%d) = %d, %v; want 0, false", bad, s, ok)
		}
	}
}

func TestNewestOfFewSerials(t *testing.T) {
	for _, s := range serialEdges() {
		wantNewestIs(t, s, s)
		wantNewestIs(t, s, s, s)
		wantNewestIs(t, s, slices.Repeat([]int{s}, 20)...)
	}
	wantNewestIs(t, 9, 9, 3, 5)
	wantNewestIs(t, 9, 3, 9, 5)
	wantNewestIs(t, 9, 3, 5, 9)
	wantNewestIs(t, 9, 9, 3, 9)
	wantNewestIs(t, 9, 3, 9, 9, 3)
	wantNewestIs(t, 0, 0, allSerials-1)
	wantNewestIs(t, 0, allSerials-1, 0)
	wantNewestIs(t, 2, allSerials-5, 2, allSerials-1)
	wantNewestIs(t, halfSerials-1, 0, halfSerials-1)
	wantNewestIs(t, 0, 0, halfSerials+1)
}

func TestNewestOfManySerials(t *testing.T) {
	for _, from := range serialEdges() {
		l := make([]int, 20)
		for i := range l {
			l[i] = (from + 100*i) % allSerials
		}
		newest := l[19]
		for range l {
			l = append(l[1:], l[0])
			wantNewestIs(t, newest, l...)
		}
		wantNoNewest(t, append(l, l[0])...)
		wantNoNewest(t, append(l, newest)...)
		wantNoNewest(t, slices.Repeat(l, 5)...)
	}
	wantNoNewest(t)
	wantNoNewest(t, make([]int, 21)...)
	if got, ok := impl.NewestOf([]int{}); got != 0 || ok {
		t.Error(got, ok)
	}
}

func TestNewestOfWithOneThatIsNoSerial(t *testing.T) {
	for _, bad := range badSerials() {
		wantNoNewest(t, bad)
		wantNoNewest(t, bad, 1, 2)
		wantNoNewest(t, 1, bad, 2)
		wantNoNewest(t, 1, 2, bad)
		wantNoNewest(t, 2, 1, bad)
		wantNoNewest(t, append(make([]int, 19), bad)...)
	}
}

func TestNewestOfThoseHalfRoundApart(t *testing.T) {
	wantNoNewest(t, 0, halfSerials)
	wantNoNewest(t, halfSerials, 0)
	wantNoNewest(t, 5, 5, halfSerials+5)
	for _, s := range serialEdges() {
		half := (s + halfSerials) % allSerials
		for _, third := range serialEdges() {
			wantNoNewest(t, s, half, third)
			wantNoNewest(t, third, half, s)
			wantNoNewest(t, half, third, s)
		}
	}
	// The two need not be the newest themselves to leave no newest one.
	wantNoNewest(t, 10, 11, halfSerials+10, 12)
}

// Each of the three is newer than the one ahead of it, and the first than the last.
func TestNewestOfThoseThatGoRound(t *testing.T) {
	const third = allSerials / 3
	for _, s := range serialEdges() {
		a, b, c := s, (s+third)%allSerials, (s+2*third)%allSerials
		for _, pair := range [][2]int{{a, b}, {b, c}, {c, a}} {
			wantOlder(t, pair[0], pair[1], true, true)
		}
		wantNoNewest(t, a, b, c)
		wantNoNewest(t, c, b, a)
		wantNoNewest(t, b, a, c)
		wantNewestIs(t, b, a, b)
		wantNewestIs(t, a, a, c)
	}
}

func TestCounterForItself(t *testing.T) {
	for _, near := range counterEdges() {
		wantNear(t, near%allSerials, near, near)
	}
}

func TestCounterForThoseAboutHalfRoundAway(t *testing.T) {
	for _, near := range []int{allSerials, allSerials + 5, 3*allSerials - 1, 9*allSerials + halfSerials, mostCounter - allSerials, mostCounter - allSerials - 7} {
		for _, far := range []int{1, 2, halfSerials - 2, halfSerials - 1} {
			wantNear(t, (near+far)%allSerials, near, near+far)
			wantNear(t, (near-far)%allSerials, near, near-far)
		}
		wantNear(t, (near+halfSerials)%allSerials, near, near-halfSerials)
		wantNear(t, (near+halfSerials+1)%allSerials, near, near-halfSerials+1)
		wantNear(t, (near-halfSerials-1)%allSerials, near, near+halfSerials-1)
	}
	wantNear(t, 2, allSerials-1, allSerials+2)
	wantNear(t, allSerials-1, allSerials+2, allSerials-1)
	wantNear(t, 0, halfSerials, 0)
	wantNear(t, 0, halfSerials+1, allSerials)
}

// Where the nearest one lies outside, the one within is told, however far.
func TestCounterForAtBothEnds(t *testing.T) {
	for _, serial := range serialEdges() {
		wantNear(t, serial, 0, serial)
	}
	wantNear(t, halfSerials, 0, halfSerials)
	wantNear(t, allSerials-1, 0, allSerials-1)
	wantNear(t, allSerials-1, 1, allSerials-1)
	wantNear(t, halfSerials+3, 2, halfSerials+3)
	wantNear(t, halfSerials+3, 3, halfSerials+3)
	wantNear(t, halfSerials+3, 4, halfSerials+3)
	wantNear(t, allSerials-1, halfSerials-1, allSerials-1)

	wantNear(t, 0, mostCounter, mostCounter)
	wantNear(t, 0, mostCounter-1, mostCounter)
	wantNear(t, 0, mostCounter-halfSerials, mostCounter-allSerials)
	wantNear(t, 0, mostCounter-halfSerials+1, mostCounter)
	wantNear(t, 0, mostCounter-halfSerials-1, mostCounter-allSerials)
	wantNear(t, 1, mostCounter, mostCounter-allSerials+1)
	wantNear(t, 1, mostCounter-1, mostCounter-allSerials+1)
	wantNear(t, halfSerials-1, mostCounter, mostCounter-halfSerials-1)
	wantNear(t, halfSerials, mostCounter, mostCounter-halfSerials)
	wantNear(t, allSerials-1, mostCounter, mostCounter-1)
}

func TestCounterForRefuses(t *testing.T) {
	refused := func(serial, near int) {
		t.Helper()
		if got, ok := impl.CounterFor(serial, near); got != 0 || ok {
			t.Errorf("CounterFor(%d, %d) = %d, %v; want 0, false", serial, near, got, ok)
		}
	}
	for _, bad := range badSerials() {
		for _, near := range append(counterEdges(), badCounters()...) {
			refused(bad, near)
		}
	}
	for _, bad := range badCounters() {
		for _, serial := range serialEdges() {
			refused(serial, bad)
		}
	}
	refused(math.MaxInt, math.MaxInt)
	refused(math.MinInt, math.MinInt)
}

// Promise 5, its first half: what is added (and is not nothing) is newer, and so many steps ahead.
func TestWhatIsAddedIsNewer(t *testing.T) {
	r := rand.New(rand.NewSource(51))
	check := func(s, n int) {
		sum, ok := impl.SerialAdd(s, n)
		newer, told := impl.SerialLess(s, sum)
		older, toldBack := impl.SerialLess(sum, s)
		steps, stepsOk := impl.StepsBetween(s, sum)
		if !ok || newer != (n > 0) || !told || older || !toldBack || steps != n || !stepsOk {
			t.Errorf("%d and %d: %d, %v; newer %v, %v; back %v, %v; steps %d, %v", s, n, sum, ok, newer, told, older, toldBack, steps, stepsOk)
		}
	}
	for _, s := range serialEdges() {
		for _, n := range []int{0, 1, 2, halfSerials - 2, halfSerials - 1} {
			check(s, n)
		}
	}
	for range 50000 {
		check(randomSerial(r), r.Intn(halfSerials))
	}
}

// Promise 5, its second half, with what is not told where it is half round.
func TestOfTwoSerialsOneIsNewerAtMost(t *testing.T) {
	r := rand.New(rand.NewSource(52))
	check := func(a, b int) {
		less, told := impl.SerialLess(a, b)
		back, toldBack := impl.SerialLess(b, a)
		far := max(a-b, b-a)
		if told != toldBack || told != (far != halfSerials) {
			t.Errorf("%d and %d are told: %v, %v", a, b, told, toldBack)
		}
		if less && back || told && a != b && less == back || (a == b || !told) && (less || back) {
			t.Errorf("%d and %d: %v, %v", a, b, less, back)
		}
	}
	for _, a := range serialEdges() {
		for _, b := range serialEdges() {
			check(a, b)
		}
	}
	for range 50000 {
		a := randomSerial(r)
		check(a, randomSerial(r))
		check(a, (a+halfSerials+r.Intn(3)-1)%allSerials)
	}
}

func TestCountersComeBackFromTheirSerials(t *testing.T) {
	r := rand.New(rand.NewSource(53))
	for range 50000 {
		counter := r.Intn(mostCounter + 1)
		near := min(max(counter+r.Intn(allSerials-1)-(halfSerials-1), 0), mostCounter)
		serial, ok := impl.SerialOf(counter)
		if back, ok2 := impl.CounterFor(serial, near); back != counter || !ok || !ok2 {
			t.Errorf("CounterFor(%d, %d) = %d, %v; want %d", serial, near, back, ok2, counter)
		}
	}
}
