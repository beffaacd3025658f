package tests

import (
	"math"
	"reflect"
	"slices"
	"testing"

	"loop.example/g01272/impl"
)

// badTimes are lists that are no times.
func badTimes() [][]int {
	return [][]int{
		nil, {}, slices.Repeat([]int{1}, 13), slices.Repeat([]int{0}, 12), make([]int, 5000), slices.Repeat([]int{5}, 5000),
		{0}, {-1}, {1001}, {math.MinInt}, {math.MaxInt},
		{1, 2, 0}, {0, 1, 2}, {1, 2, 5, 1001}, {1001, 1}, {5, -1, 5, 5}, {1, math.MaxInt, math.MaxInt, 1}, {math.MinInt, 1, 1, 1, math.MinInt},
	}
}

// callPairs calls all functions of chapter 2 that require times, with the same arguments. The numbers are a person and a time.
func callPairs(times []int, k int, time int) []result {
	var all []result
	add := func(name string, value any, ok bool) { all = append(all, got(name, ok, value)) }
	pairTime, ok := impl.PairTime(times)
	add("PairTime", pairTime, ok)
	plan, ok := impl.PairPlan(times)
	add("PairPlan", plan, ok)
	rounds, ok := impl.PairRounds(times)
	add("PairRounds", rounds, ok)
	escortTime, ok := impl.EscortTime(times)
	add("EscortTime", escortTime, ok)
	escortPlan, ok := impl.EscortPlan(times)
	add("EscortPlan", escortPlan, ok)
	gain, ok := impl.PairGain(times)
	add("PairGain", gain, ok)
	fetches, ok := impl.CountFetches(times)
	add("CountFetches", fetches, ok)
	even, ok := impl.HasEvenRound(times)
	add("HasEvenRound", even, ok)
	back, ok := impl.WhoComesBack(times)
	add("WhoComesBack", back, ok)
	added, ok := impl.AddedTime(times, time)
	add("AddedTime", added, ok)
	saved, ok := impl.SavedTime(times, k)
	add("SavedTime", saved, ok)
	tight, ok := impl.IsTight(times, k)
	add("IsTight", tight, ok)
	order, ok := impl.RankOfPace(times)
	add("RankOfPace", order, ok)
	return all
}

func TestListsThatAreNoTimes(t *testing.T) {
	for _, times := range badTimes() {
		for _, k := range []int{0, 1, len(times) - 1} {
			for _, r := range callPairs(times, k, 5) {
				if r.ok || !isZero(r.values[0]) {
					t.Errorf("%s(%v, %d) = %v, %v", r.name, times, k, r.values, r.ok)
				}
			}
		}
	}
}

func TestPeopleThatThereAreNot(t *testing.T) {
	for _, times := range [][]int{{7}, {1, 2, 5, 10}, slices.Repeat([]int{1000}, 12)} {
		for _, k := range []int{-1, len(times), len(times) + 1, math.MinInt, math.MaxInt} {
			if n, ok := impl.SavedTime(times, k); n != 0 || ok {
				t.Errorf("SavedTime(%v, %d) = %v, %v", times, k, n, ok)
			}
			if tight, ok := impl.IsTight(times, k); tight || ok {
				t.Errorf("IsTight(%v, %d) = %v, %v", times, k, tight, ok)
			}
		}
	}
}

// Promise 11: a call that fails returns zero values, whatever the arguments are, and no call panics.
func TestAllTimesAreAccepted(t *testing.T) {
	numbers := []int{math.MinInt, -1, 0, 1, 2, 11, 12, 1000, 1001, math.MaxInt}
	lists := append(badTimes(), []int{1}, []int{3, 3}, []int{1, 2, 3}, []int{1, 2, 5, 10}, slices.Repeat([]int{1000}, 12))
	for _, times := range lists {
		for _, k := range numbers {
			for _, time := range numbers {
				for _, r := range callPairs(times, k, time) {
					if !r.ok && !isZero(r.values[0]) {
						t.Errorf("%s(%v, %d, %d) fails with %v", r.name, times, k, time, r.values)
					}
				}
			}
		}
	}
}

// Promise 11: times are not modified, neither by a call nor by what is done to its results, and spare capacity is neither read nor written.
func TestTimesAreNotModified(t *testing.T) {
	for _, times := range [][]int{{4}, {9, 2}, {7, 3, 5}, {1, 2, 5, 10}, {10, 5, 2, 1}, {9, 2, 9, 2, 9}, {12, 11, 10, 9, 8, 7, 6, 5, 4, 3, 2, 1}} {
		given := spare(times, -77)
		before := slices.Clone(given[:cap(given)])
		same := func() bool { return slices.Equal(before, given[:cap(given)]) }
		plain := callPairs(slices.Clip(slices.Clone(times)), 0, 6)
		results := callPairs(given, 0, 6)
		if !reflect.DeepEqual(plain, results) {
			t.Errorf("%v: the spare capacity changes the results %v to %v", times, plain, results)
		}
		if !same() {
			t.Errorf("%v is changed to %v", times, given[:cap(given)])
		}
		for _, r := range results {
			scribble(r.values[0])
			if !same() {
				t.Errorf("%v: %s returns memory of the argument", times, r.name)
			}
		}
		if again := callPairs(given, 0, 6); !reflect.DeepEqual(plain, again) {
			t.Errorf("%v: later results depend on what was done to earlier ones: %v", times, again)
		}
	}
}

func TestPairPlansShareNoMemory(t *testing.T) {
	times := []int{6, 1, 6, 2, 6, 6, 3}
	plan, _ := impl.PairPlan(times)
	escort, _ := impl.EscortPlan(times)
	checkApart(t, plan)
	checkApart(t, escort)
	first, _ := impl.FirstPairList(3, 5, 9)
	scribble(first)
	if again, ok := impl.FirstPairList(3, 5, 9); !ok || slices.Contains(again, -99) {
		t.Error("a list depends on what was done to an earlier one", again, ok)
	}
}
