package tests

import (
	"math"
	"reflect"
	"slices"
	"testing"

	"loop.example/g01272/impl"
)

func badParties() []impl.Party {
	return []impl.Party{
		{},
		{Seats: 2},
		{Times: []int{1, 2, 3}},
		{Times: []int{1, 2, 3}, Seats: 4},
		{Times: []int{1, 2, 3}, Seats: math.MinInt},
		{Times: []int{1, 2, 3}, Seats: math.MaxInt},
		{Times: []int{0, 1, 2}, Seats: 2},
		{Times: []int{1, 2, 1001}, Seats: 2},
		{Times: []int{1, math.MinInt, math.MaxInt}, Seats: 2},
		{Times: []int{1, 1, 1, 1, 1, 1, 1, 1, 1}, Seats: 2},
		{Times: make([]int, 100), Seats: 2},
	}
}

// badStates are no states of four people.
func badStates() []impl.State {
	return []impl.State{
		{},
		{Torch: true},
		{Over: []bool{}},
		stateOf("...<"),
		stateOf("xxx>"),
		stateOf(".....<"),
		stateOf("xxxxx>"),
		stateOf("....>"),
		stateOf("xxxx<"),
		{Over: make([]bool, 100)},
		{Over: make([]bool, 100), Torch: true},
	}
}

// result is what a call returned.
type result struct {
	name   string
	values []any
	ok     bool
}

func got(name string, ok bool, values ...any) result { return result{name, values, ok} }

// callAll calls all functions of chapter 1 with the same arguments.
func callAll(p impl.Party, s impl.State, lists [][]int, n int, text string) []result {
	var trip []int
	if len(lists) > 0 {
		trip = lists[0]
	}
	var all []result
	add := func(name string, value any, ok bool) { all = append(all, got(name, ok, value)) }
	add("IsParty", impl.IsParty(p), true)
	isState, ok := impl.IsState(p, s)
	add("IsState", isState, ok)
	first, ok := impl.FirstState(p)
	add("FirstState", first, ok)
	last, ok := impl.LastState(p)
	add("LastState", last, ok)
	can, ok := impl.CanCross(p, s, trip)
	add("CanCross", can, ok)
	there, ok := impl.CrossBridge(p, s, trip)
	add("CrossBridge", there, ok)
	time, ok := impl.TripTime(p, trip)
	add("TripTime", time, ok)
	trips, ok := impl.TripsOf(p, s)
	add("TripsOf", trips, ok)
	played, ok := impl.PlayTrips(p, s, lists)
	add("PlayTrips", played, ok)
	index, ok := impl.TripThatFails(p, s, lists)
	add("TripThatFails", index, ok)
	planTime, ok := impl.PlanTime(p, lists)
	add("PlanTime", planTime, ok)
	isPlan, ok := impl.IsPlan(p, lists)
	add("IsPlan", isPlan, ok)
	back, ok := impl.BackPlan(p, lists)
	add("BackPlan", back, ok)
	walked, ok := impl.TimesWalked(p, lists)
	add("TimesWalked", walked, ok)
	sorted, ok := impl.SortParty(p)
	add("SortParty", sorted, ok)
	dropped, ok := impl.DropPerson(p, n)
	add("DropPerson", dropped, ok)
	slow, ok := impl.SlowParty(p, n)
	add("SlowParty", slow, ok)
	stateText, ok := impl.StateText(p, s)
	add("StateText", stateText, ok)
	partyText, ok := impl.PartyText(p)
	add("PartyText", partyText, ok)
	parsed, ok := impl.ParseParty(text)
	add("ParseParty", parsed, ok)
	return all
}

// isZero tells a zero value; an empty slice is one, too.
func isZero(v any) bool {
	switch x := v.(type) {
	case [][]int:
		return len(x) == 0
	case []int:
		return len(x) == 0
	case impl.State:
		return isZeroState(x)
	case []impl.State:
		return len(x) == 0
	case impl.Party:
		return isZeroParty(x)
	case impl.Bank:
		return isZeroBank(x)
	case impl.Keep:
		return isZeroKeep(x)
	case impl.Places:
		return isZeroPlaces(x)
	case []impl.Voyage:
		return len(x) == 0
	case impl.Crew:
		return isZeroCrew(x)
	case impl.Night:
		return isZeroNight(x)
	case impl.Camp:
		return isZeroCamp(x)
	case [][][]int:
		return len(x) == 0
	case impl.Puzzle:
		return isZeroPuzzle(x)
	case impl.Desk:
		return isZeroDesk(x)
	case []string:
		return len(x) == 0
	}
	return reflect.ValueOf(v).IsZero()
}

func TestInvalidArgumentsGiveZeroValues(t *testing.T) {
	for _, p := range badParties() {
		people := min(len(p.Times), 3)
		s := impl.State{Over: make([]bool, len(p.Times))}
		for _, r := range callAll(p, s, [][]int{{0}, {0}, {0}}, people-1, "") {
			if r.ok && r.name != "IsParty" || !isZero(r.values[0]) {
				t.Errorf("%s with the party %v = %v, %v", r.name, p, r.values, r.ok)
			}
		}
	}
	p := impl.Party{Times: []int{1, 2, 5, 10}, Seats: 2}
	ofStates := []string{"CanCross", "CrossBridge", "TripsOf", "PlayTrips", "TripThatFails", "StateText"}
	for _, s := range badStates() {
		for _, r := range callAll(p, s, [][]int{{0}, {1, 2, 3, 4}}, 0, "") {
			if slices.Contains(ofStates, r.name) && (r.ok || !isZero(r.values[0])) {
				t.Errorf("%s in the state %v = %v, %v", r.name, s, r.values, r.ok)
			}
		}
	}
}

// Promise 11: a call that fails returns zero values, whatever the arguments are, and no call panics.
func TestAllArgumentsAreAccepted(t *testing.T) {
	parties := append(badParties(), allParties()...)
	numbers := []int{math.MinInt, -1, 0, 1, 3, 8, 1000, 1001, math.MaxInt}
	lists := [][][]int{
		nil, {}, {nil}, {nil, {0}}, {{0}}, {{0, 1}, {0}, {0, 2}}, {{-1}}, {{math.MinInt, math.MaxInt}}, {{7}, {8}, {9}},
		{{0, 1, 2, 3, 4, 5, 6, 7, 8, 9, 10}}, {{1 << 32}, {1 << 62}}, shuttle(40), shuttle(41), {make([]int, 1000)},
		make([][]int, 1000), examplePlan, {{3, 2, 1}}, {{0, 1, 1}},
	}
	texts := []string{"", ":", "\x00\xff", "2:1,2", "::::,,,,", "99999999999999999999:1"}
	for _, p := range parties {
		states := append(badStates(), impl.State{Over: make([]bool, len(p.Times))})
		if len(p.Times) <= 5 {
			states = append(states, allStates(len(p.Times))...)
		}
		for i, s := range states {
			for j, l := range lists {
				k := i + j
				for _, r := range callAll(p, s, l, numbers[k%len(numbers)], texts[k%len(texts)]) {
					if !r.ok && !isZero(r.values[0]) {
						t.Errorf("%s(%v, %v, %v) fails with %v", r.name, p, s, l, r.values)
					}
				}
			}
		}
	}
}

// withSpare are arguments whose slices have spare capacity that is filled.
type withSpare struct {
	p       impl.Party
	s       impl.State
	lists   [][]int
	dangers [][]int
	at      []int
	voyages []impl.Voyage
	rows    []bool
	rounds  [][][]int
	clues   []impl.Clue
}

func spare[T any](list []T, fill T) []T {
	long := append(slices.Clone(list), fill, fill, fill)
	return long[:len(list)]
}

func spareLists(lists [][]int) [][]int {
	var all [][]int
	for _, list := range lists {
		all = append(all, spare(list, -77))
	}
	return spare(all, []int{-77})
}

func spareVoyages(voyages []impl.Voyage) []impl.Voyage {
	var all []impl.Voyage
	for _, v := range voyages {
		all = append(all, impl.Voyage{To: v.To, Group: spare(v.Group, -77)})
	}
	return spare(all, impl.Voyage{To: -77, Group: []int{-77}})
}

func spareRounds(rounds [][][]int) [][][]int {
	var all [][][]int
	for _, round := range rounds {
		all = append(all, spareLists(round))
	}
	return spare(all, [][]int{{-77}})
}

func makeSpare(p impl.Party, s impl.State, lists [][]int) withSpare {
	return withSpare{
		p:     impl.Party{Times: spare(p.Times, -77), Seats: p.Seats},
		s:     impl.State{Over: spare(s.Over, !s.Torch), Torch: s.Torch},
		lists: spareLists(lists),
	}
}

// wholeLists returns lists with their spare capacity.
func wholeLists(lists [][]int) [][]int {
	var all [][]int
	for _, list := range lists[:cap(lists)] {
		all = append(all, slices.Clone(list[:cap(list)]))
	}
	return all
}

// wholeVoyages returns voyages with their spare capacity.
func wholeVoyages(voyages []impl.Voyage) []impl.Voyage {
	var all []impl.Voyage
	for _, v := range voyages[:cap(voyages)] {
		all = append(all, impl.Voyage{To: v.To, Group: slices.Clone(v.Group[:cap(v.Group)])})
	}
	return all
}

// wholeRounds returns rounds with their spare capacity.
func wholeRounds(rounds [][][]int) [][][]int {
	var all [][][]int
	for _, round := range rounds[:cap(rounds)] {
		all = append(all, wholeLists(round))
	}
	return all
}

// whole returns the arguments with their spare capacity.
func (w withSpare) whole() withSpare {
	return withSpare{
		p:       impl.Party{Times: slices.Clone(w.p.Times[:cap(w.p.Times)]), Seats: w.p.Seats},
		s:       impl.State{Over: slices.Clone(w.s.Over[:cap(w.s.Over)]), Torch: w.s.Torch},
		lists:   wholeLists(w.lists),
		dangers: wholeLists(w.dangers),
		at:      slices.Clone(w.at[:cap(w.at)]),
		voyages: wholeVoyages(w.voyages),
		rows:    slices.Clone(w.rows[:cap(w.rows)]),
		rounds:  wholeRounds(w.rounds),
		clues:   slices.Clone(w.clues[:cap(w.clues)]),
	}
}

// scribble overwrites the whole room of the slices of a result.
func scribble(v any) {
	switch x := v.(type) {
	case [][]int:
		for _, list := range x {
			scribble(list)
		}
		clear(x[:cap(x)])
	case []int:
		for i := range x[:cap(x)] {
			x[:cap(x)][i] = -99
		}
	case []bool:
		for i := range x[:cap(x)] {
			x[:cap(x)][i] = !x[:cap(x)][i]
		}
	case impl.State:
		scribble(x.Over)
	case []impl.State:
		for _, s := range x {
			scribble(s)
		}
		clear(x[:cap(x)])
	case impl.Party:
		scribble(x.Times)
	case impl.Bank:
		scribble(asState(x))
	case impl.Keep:
		scribble(x.Dangers)
	case impl.Places:
		scribble(x.At)
	case []impl.Voyage:
		for _, v := range x {
			scribble(v.Group)
		}
		clear(x[:cap(x)])
	case impl.Crew:
		scribble(x.Weights)
		scribble(x.Rows)
	case impl.Night:
		scribble(x.Times)
	case impl.Camp:
		scribble(x.Over)
	case [][][]int:
		for _, lists := range x {
			scribble(lists)
		}
		clear(x[:cap(x)])
	case impl.Puzzle:
		for k := range x.Clues[:cap(x.Clues)] {
			x.Clues[:cap(x.Clues)][k] = impl.Clue{Kind: -99, A: -99, B: -99}
		}
	case impl.Desk:
		scribble(x.Party)
		scribble(x.Now)
		scribble(x.Keep)
		scribble(x.Crew)
	case []string:
		for i := range x[:cap(x)] {
			x[:cap(x)][i] = "scribbled"
		}
	}
}

// checkArgumentsStay checks that calls with arguments that have spare capacity return what those without it did, and that neither the calls
// nor what is done to their results change the arguments or later results.
func checkArgumentsStay(t *testing.T, about any, w withSpare, plain []result, call func() []result) {
	t.Helper()
	before := w.whole()
	results := call()
	if !reflect.DeepEqual(plain, results) {
		t.Errorf("%v: the spare capacity changes the results %v to %v", about, plain, results)
	}
	if !reflect.DeepEqual(before, w.whole()) {
		t.Errorf("%v: arguments are changed to %v", about, w.whole())
	}
	for _, r := range results {
		for _, v := range r.values {
			scribble(v)
		}
		if !reflect.DeepEqual(before, w.whole()) {
			t.Errorf("%v: %s returns memory of an argument", about, r.name)
		}
	}
	if again := call(); !reflect.DeepEqual(plain, again) {
		t.Errorf("%v: later results depend on what was done to earlier ones: %v", about, again)
	}
}

// Promise 11: arguments are not modified, neither by a call nor by what is done to its results, and spare capacity is not read.
func TestArgumentsAreNotModified(t *testing.T) {
	cases := []struct {
		party, state string
		lists        [][]int
		n            int
	}{
		{"2:1,2,5,10", "....<", examplePlan, 0},
		{"2:10,5,2,1", "....<", examplePlan, 1},
		{"2:10,5,2,1", "xxxx>", examplePlan, 3},
		{"2:10,5,2,1", ".x..<", nil, 1},
		{"2:10,5,2,1", ".x.x>", [][]int{{1, 3}, {0, 1, 2}}, 2},
		{"1:3", ".<", shuttle(3), 1},
		{"3:9,8,7,6,5,4,3,2", "........<", [][]int{{0, 1, 2}, {0}}, 7},
	}
	for _, c := range cases {
		w := makeSpare(party(t, c.party), stateOf(c.state), c.lists)
		plain := callAll(party(t, c.party), stateOf(c.state), c.lists, c.n, c.party)
		checkArgumentsStay(t, c, w, plain, func() []result { return callAll(w.p, w.s, w.lists, c.n, c.party) })
	}
}

// checkApart checks that no two lists of a result share memory, their spare capacity with them.
func checkApart(t *testing.T, lists [][]int) {
	t.Helper()
	for i := range lists {
		want := make([][]int, len(lists))
		for j, list := range lists {
			want[j] = slices.Clone(list)
		}
		scribble(lists[i])
		if !sameLists(lists[i+1:], want[i+1:]) || !sameLists(lists[:i], want[:i]) {
			t.Fatalf("the list %d shares memory with another one: %v", i, lists)
		}
	}
}

func TestListsOfAResultShareNoMemory(t *testing.T) {
	p := party(t, "3:1,2,5,10,20")
	trips, _ := impl.TripsOf(p, stateOf(".....<"))
	back, _ := impl.BackPlan(p, [][]int{{0, 1, 2}, {0}, {0, 3, 4}})
	checkApart(t, trips)
	checkApart(t, back)
	twice := []int{0}
	one := party(t, "1:4")
	same, ok := impl.BackPlan(one, [][]int{twice, twice, twice})
	if !ok || &same[0][0] == &same[1][0] || &same[0][0] == &twice[0] {
		t.Error("lists that are one in the argument are one in the result", same, ok)
	}
}
