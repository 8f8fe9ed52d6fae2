package tests

import (
	"math/rand"
	"slices"
	"testing"

	"loop.example/g00300/impl"
)

func checkTwoNumbers(t *testing.T, a, b int) {
	t.Helper()
	want, wantOk := wantSum(a, b)
	if got, ok := impl.SerialAdd(a, b); got != want || ok != wantOk {
		t.Errorf("SerialAdd(%d, %d) = %d, %v; want %d, %v", a, b, got, ok, want, wantOk)
	}
	less, wantOk := wantLess(a, b)
	if got, ok := impl.SerialLess(a, b); got != less || ok != wantOk {
		t.Errorf("SerialLess(%d, %d) = %v, %v; want %v, %v", a, b, got, ok, less, wantOk)
	}
	want, wantOk = wantSteps(a, b)
	if got, ok := impl.StepsBetween(a, b); got != want || ok != wantOk {
		t.Errorf("StepsBetween(%d, %d) = %d, %v; want %d, %v", a, b, got, ok, want, wantOk)
	}
	want, wantOk = wantCounterFor(a, b)
	if got, ok := impl.CounterFor(a, b); got != want || ok != wantOk {
		t.Errorf("CounterFor(%d, %d) = %d, %v; want %d, %v", a, b, got, ok, want, wantOk)
	}
	want, wantOk = wantSerialOf(a)
	if got, ok := impl.SerialOf(a); got != want || ok != wantOk {
		t.Errorf("SerialOf(%d) = %d, %v; want %d, %v", a, got, ok, want, wantOk)
	}
}

func checkNewest(t *testing.T, l []int) {
	t.Helper()
	want, wantOk := wantNewest(l)
	if got, ok := impl.NewestOf(l); got != want || ok != wantOk {
		t.Errorf("NewestOf(%v) = %d, %v; want %d, %v", l, got, ok, want, wantOk)
	}
}

func TestSerialsAnswerAtAnyArguments(t *testing.T) {
	edges := slices.Concat(serialEdges(), counterEdges(), badSerials(), badCounters())
	for _, a := range edges {
		for _, b := range edges {
			checkTwoNumbers(t, a, b)
			checkNewest(t, []int{a, b})
		}
	}
	r := rand.New(rand.NewSource(54))
	for range 50000 {
		checkTwoNumbers(t, randomInt(r), randomInt(r))
		checkTwoNumbers(t, randomSerial(r), randomInt(r))
		checkTwoNumbers(t, randomSerial(r), randomSerial(r))
	}
}

func TestNewestOfAnyLists(t *testing.T) {
	r := rand.New(rand.NewSource(55))
	someTold, someNot := 0, 0
	for range 20000 {
		near := serialsNear(r, r.Intn(23))
		checkNewest(t, near)
		wild := make([]int, r.Intn(5))
		for i := range wild {
			wild[i] = randomSerial(r)
		}
		checkNewest(t, wild)
		if _, ok := wantNewest(wild); ok {
			someTold++
		} else {
			someNot++
		}
		if len(near) > 0 {
			near[r.Intn(len(near))] = randomInt(r)
			checkNewest(t, near)
		}
	}
	if someTold < 1000 || someNot < 1000 {
		t.Error("the lists are all of one kind", someTold, someNot)
	}
}

// What lies behind the list's length is as new as can be, or no serial: it must not count, and must stay.
func TestNewestOfWritesIntoNoList(t *testing.T) {
	lists := [][]int{
		nil, {}, {7}, {3, 9, 5}, {9, 5, 3}, {9, 9, 3}, {0, halfSerials}, {1, -1, 2}, serialEdges(), badSerials(),
		make([]int, 20), make([]int, 21), {allSerials - 1, 2, allSerials - 5},
	}
	for _, l := range lists {
		for _, spare := range [][]int{{1000}, {-1}, {halfSerials}, {allSerials}, {halfSerials - 1, -7}} {
			whole := append(slices.Clone(l), spare...)
			before := slices.Clone(whole)
			plain, plainOk := impl.NewestOf(slices.Clip(slices.Clone(l)))
			if got, ok := impl.NewestOf(whole[:len(l)]); got != plain || ok != plainOk {
				t.Errorf("NewestOf reads behind the length of %v: %d, %v", l, got, ok)
			}
			if !slices.Equal(whole, before) {
				t.Errorf("%v was written into: %v", before, whole)
			}
		}
	}
}
