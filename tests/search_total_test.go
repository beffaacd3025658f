package tests

import (
	"math"
	"reflect"
	"slices"
	"testing"

	"loop.example/g01272/impl"
)

// callSearch calls all functions of chapter 3 with the same arguments. The number is a person and a time.
func callSearch(p impl.Party, s impl.State, n int) []result {
	var all []result
	add := func(name string, value any, ok bool) { all = append(all, got(name, ok, value)) }
	least, ok := impl.LeastTime(p)
	add("LeastTime", least, ok)
	from, ok := impl.TimeFrom(p, s)
	add("TimeFrom", from, ok)
	to, ok := impl.TimeTo(p, s)
	add("TimeTo", to, ok)
	first, ok := impl.FirstBest(p)
	add("FirstBest", first, ok)
	count, ok := impl.CountBest(p)
	add("CountBest", count, ok)
	trips, ok := impl.BestFirstTrips(p)
	add("BestFirstTrips", trips, ok)
	fewest, ok := impl.FewestTrips(p)
	add("FewestTrips", fewest, ok)
	fewestOfBest, ok := impl.FewestOfBest(p)
	add("FewestOfBest", fewestOfBest, ok)
	reached, ok := impl.ReachedIn(p, n)
	add("ReachedIn", reached, ok)
	on, ok := impl.IsOnBest(p, s)
	add("IsOnBest", on, ok)
	countOn, ok := impl.CountOnBest(p)
	add("CountOnBest", countOn, ok)
	cost, ok := impl.CostOf(p, n)
	add("CostOf", cost, ok)
	times, ok := impl.TimesBySeats(p)
	add("TimesBySeats", times, ok)
	far, time, ok := impl.FarthestStates(p)
	all = append(all, got("FarthestStates", ok, far, time))
	return all
}

// checkFails checks that a call has failed with zero values.
func checkFails(t *testing.T, about any, r result) {
	t.Helper()
	if r.ok || slices.ContainsFunc(r.values, func(v any) bool { return !isZero(v) }) {
		t.Errorf("%v: %s = %v, %v", about, r.name, r.values, r.ok)
	}
}

func TestSearchOfNoParties(t *testing.T) {
	for _, p := range badParties() {
		s := impl.State{Over: make([]bool, len(p.Times))}
		for _, n := range []int{0, 1} {
			for _, r := range callSearch(p, s, n) {
				checkFails(t, p, r)
			}
		}
	}
}

func TestSearchOfNoStates(t *testing.T) {
	p := party(t, "2:1,2,5,10")
	for _, s := range badStates() {
		for _, r := range callSearch(p, s, 0) {
			if slices.Contains([]string{"TimeFrom", "TimeTo", "IsOnBest"}, r.name) {
				checkFails(t, s, r)
			}
		}
	}
}

// Promise 11: a call that fails returns zero values, whatever the arguments are, and no call panics.
func TestSearchAcceptsAllArguments(t *testing.T) {
	numbers := []int{math.MinInt, -1, 0, 1, 3, 8, impl.MaxWait, impl.MaxWait + 1, math.MaxInt}
	for _, p := range append(badParties(), allParties()...) {
		states := append(badStates(), impl.State{Over: make([]bool, len(p.Times))})
		for i, n := range numbers {
			for _, r := range callSearch(p, states[i%len(states)], n) {
				if !r.ok {
					checkFails(t, p, r)
				}
			}
		}
		for _, s := range states {
			for _, r := range callSearch(p, s, 0) {
				if !r.ok {
					checkFails(t, p, r)
				}
			}
		}
	}
}

// Promise 11: arguments are not modified, neither by a call nor by what is done to its results, and spare capacity is neither read nor written.
func TestSearchModifiesNoArguments(t *testing.T) {
	for _, c := range []struct {
		party, state string
		n            int
	}{
		{"1:3", ".<", 0}, {"1:3,1", "x.>", 1}, {"2:10,5,2,1", "....<", 0}, {"2:10,5,2,1", "xxxx>", 3}, {"2:4,4,4", ".x.<", 2}, {"3:9,8,7,6,5", "x..x.>", 4},
	} {
		w := makeSpare(party(t, c.party), stateOf(c.state), nil)
		plain := callSearch(party(t, c.party), stateOf(c.state), c.n)
		checkArgumentsStay(t, c, w, plain, func() []result { return callSearch(w.p, w.s, c.n) })
	}
}

func TestListsOfASearchShareNoMemory(t *testing.T) {
	p := party(t, "2:2,2,2,2,2")
	plan, _ := impl.FirstBest(p)
	trips, _ := impl.BestFirstTrips(p)
	checkApart(t, plan)
	checkApart(t, trips)
	far, _, _ := impl.FarthestStates(p)
	var texts []string
	for _, s := range far {
		texts = append(texts, textOf(s))
	}
	for i := range far {
		scribble(far[i])
		for j := i + 1; j < len(far); j++ {
			if textOf(far[j]) != texts[j] {
				t.Fatalf("the state %d shares memory with the state %d: %v", i, j, far)
			}
		}
	}
}

// What depends on no order in which a map is gone through is the same each time.
func TestSearchIsTheSameEachTime(t *testing.T) {
	for _, p := range allParties() {
		first, _ := impl.FirstState(p)
		once := callSearch(p, first, 1)
		for range 5 {
			if again := callSearch(p, first, 1); !reflect.DeepEqual(once, again) {
				t.Fatalf("%v: %v, and then %v", p, once, again)
			}
		}
	}
}
