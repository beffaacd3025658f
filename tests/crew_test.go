package tests

import (
	"math"
	"slices"
	"strconv"
	"strings"
	"testing"

	"loop.example/g01272/impl"
)

func crew(t *testing.T, text string) impl.Crew {
	t.Helper()
	c, ok := impl.ParseCrew(text)
	if !ok {
		t.Fatalf("ParseCrew(%q) fails", text)
	}
	return c
}

// crewText writes a CrewText without the package's help.
func crewText(c impl.Crew) string {
	var people []string
	for k, weight := range c.Weights {
		text := strconv.Itoa(weight)
		if c.Rows[k] {
			text += "r"
		}
		people = append(people, text)
	}
	return strconv.Itoa(c.Most) + "=" + strings.Join(people, ",")
}

func isZeroCrew(c impl.Crew) bool { return len(c.Weights) == 0 && len(c.Rows) == 0 && c.Most == 0 }

func sameCrew(a, b impl.Crew) bool {
	return slices.Equal(a.Weights, b.Weights) && slices.Equal(a.Rows, b.Rows) && a.Most == b.Most
}

// everyRows are all lists of who of so many people can row.
func everyRows(people int) [][]bool {
	var all [][]bool
	for set := range 1 << people {
		rows := make([]bool, people)
		for k := range rows {
			rows[k] = set>>k&1 == 1
		}
		all = append(all, rows)
	}
	return all
}

// crewsOf are all crews of so many people with weights up to one, in boats that can carry up to one more than all of them.
func crewsOf(people, heaviest int) []impl.Crew {
	var list []impl.Crew
	for _, weights := range allTimes(people, heaviest) {
		for _, rows := range everyRows(people) {
			for most := range people*heaviest + 2 {
				list = append(list, impl.Crew{Weights: weights, Rows: rows, Most: most})
			}
		}
	}
	return list
}

func smallCrews() []impl.Crew {
	return slices.Concat(crewsOf(1, 4), crewsOf(2, 4), crewsOf(3, 3), crewsOf(4, 2))
}

// crewOf is a crew of people of whom those can row whose bit is set.
func crewOf(weights []int, rowers int, most int) impl.Crew {
	return impl.Crew{Weights: weights, Rows: everyRows(len(weights))[rowers%(1<<len(weights))], Most: most}
}

// otherCrews are crews of four to MaxCrew people that follow no plain rule, each in a boat that is just enough, in one that is not,
// and in one that carries a bit more than enough.
func otherCrews(each int) []impl.Crew {
	var list []impl.Crew
	for people := 4; people <= impl.MaxCrew; people++ {
		for _, heaviest := range []int{2, 5, 30, impl.MaxWeight} {
			for n, weights := range someTimes(people, heaviest, each) {
				rowers := (n+1)*(people*7919+heaviest*104729) ^ 1<<(n%people)
				enough := leastBoat(crewOf(weights, rowers, 0))
				if enough < 0 {
					enough = heaviest
				}
				for _, most := range []int{enough, enough - 1, enough + 1 + heaviest/2} {
					list = append(list, crewOf(weights, rowers, most))
				}
			}
		}
	}
	return list
}

// badCrews have a number or a list that is none. Of some of them the states of three people would be states.
func badCrews() []impl.Crew {
	three, can := []int{50, 50, 100}, []bool{true, true, false}
	list := []impl.Crew{
		{}, {Most: 100}, {Weights: []int{}, Rows: []bool{}, Most: 100}, {Rows: can, Most: 100}, {Weights: three, Most: 100},
		{Weights: three, Rows: can[:2], Most: 100}, {Weights: three, Rows: append(slices.Clone(can), true), Most: 100}, {Weights: three, Rows: []bool{}, Most: 100},
		{Weights: three, Rows: make([]bool, 1000), Most: 100}, {Weights: []int{}, Rows: []bool{true}, Most: 100},
		{Weights: slices.Repeat([]int{1}, 8), Rows: slices.Repeat([]bool{true}, 8), Most: 100},
		{Weights: slices.Repeat([]int{1}, 8), Rows: slices.Repeat([]bool{true}, 7), Most: 100},
		{Weights: slices.Repeat([]int{1}, 7), Rows: slices.Repeat([]bool{true}, 8), Most: 100},
		{Weights: slices.Repeat([]int{1}, 1000), Rows: slices.Repeat([]bool{true}, 1000), Most: 100},
	}
	for _, n := range []int{0, -1, impl.MaxWeight + 1, math.MinInt, math.MaxInt} {
		for k := range three {
			weights := slices.Clone(three)
			weights[k] = n
			list = append(list, impl.Crew{Weights: weights, Rows: can, Most: 100})
		}
		list = append(list, impl.Crew{Weights: []int{n}, Rows: []bool{true}, Most: 100})
	}
	for _, most := range []int{-1, impl.MaxMost + 1, math.MinInt, math.MaxInt} {
		list = append(list, impl.Crew{Weights: three, Rows: can, Most: most}, impl.Crew{Weights: []int{1}, Rows: []bool{true}, Most: most})
	}
	return list
}

func weightOf(c impl.Crew, list []int) int {
	load := 0
	for _, k := range list {
		load += c.Weights[k]
	}
	return load
}

// isCrewRide tells by the words of the document whether an increasing list of people is a ride in a state.
func isCrewRide(c impl.Crew, s impl.State, list []int) bool {
	rows := false
	for _, k := range list {
		if s.Over[k] != s.Torch {
			return false
		}
		rows = rows || c.Rows[k]
	}
	return rows && weightOf(c, list) <= c.Most
}

// crewSteps are the rides in a state found by going through all sets of people, with their loads.
func crewSteps(c impl.Crew, s impl.State) []step {
	var steps []step
	for _, list := range setsOf(len(c.Weights)) {
		if isCrewRide(c, s, list) {
			steps = append(steps, step{list, weightOf(c, list), behind(s, list)})
		}
	}
	return steps
}

func TestExampleOfChapter7(t *testing.T) {
	c, ok := impl.ParseCrew("100=50r,50r,100r")
	if want := (impl.Crew{Weights: []int{50, 50, 100}, Rows: []bool{true, true, true}, Most: 100}); !ok || !sameCrew(c, want) {
		t.Error("crew", c, ok)
	}
	if n, ok := impl.FewestOfCrew(c); n != 5 || !ok {
		t.Error("fewest", n, ok)
	}
	plan := [][]int{{0, 1}, {0}, {2}, {1}, {0, 1}}
	if lists, ok := impl.FirstOfCrew(c); !ok || !sameLists(lists, plan) {
		t.Error("first", lists, ok)
	}
	if n, ok := impl.LeastMost(c); n != 100 || !ok {
		t.Error("most", n, ok)
	}
	if n, ok := impl.LeastCarried(c); n != 400 || !ok {
		t.Error("carried", n, ok)
	}
	if lists, ok := impl.FirstCarried(c); !ok || !sameLists(lists, plan) {
		t.Error("first carried", lists, ok)
	}
	if n, ok := impl.CountOfCrew(c); n != 2 || !ok {
		t.Error("count", n, ok)
	}
	for _, lists := range [][][]int{plan, {{0, 1}, {1}, {2}, {0}, {0, 1}}} {
		if is, ok := impl.IsCrewPlan(c, lists); !is || !ok {
			t.Error("plan", lists, is, ok)
		}
	}
	// Each of the three has to row, as a child alone could not bring the boat back, and the adult weighs too much to go with anybody.
	if list, ok := impl.NeededRowers(c); !ok || !slices.Equal(list, []int{0, 1, 2}) {
		t.Error("needed", list, ok)
	}
	if n, ok := impl.CountReachedCrews(c); n != 14 || !ok {
		t.Error("reached", n, ok)
	}
	if text, ok := impl.CrewText(c); text != "100=50r,50r,100r" || !ok {
		t.Error("text", text, ok)
	}
}

func TestIsCrew(t *testing.T) {
	for _, c := range slices.Concat(smallCrews(), otherCrews(2)) {
		if !impl.IsCrew(c) {
			t.Error(c, "is none")
		}
	}
	for _, c := range []impl.Crew{
		{Weights: []int{1}, Rows: []bool{false}}, {Weights: []int{500}, Rows: []bool{true}, Most: 2000}, {Weights: []int{1, 500}, Rows: []bool{false, false}, Most: 1},
		{Weights: slices.Repeat([]int{500}, 7), Rows: make([]bool, 7)}, {Weights: slices.Repeat([]int{500}, 7), Rows: slices.Repeat([]bool{true}, 7), Most: 2000},
	} {
		if !impl.IsCrew(c) {
			t.Error(c, "is none")
		}
	}
	for _, c := range badCrews() {
		if impl.IsCrew(c) {
			t.Error(c, "is one")
		}
	}
}

// checkCrewRides checks what is told of rides in a state, and that each leads back.
func checkCrewRides(t *testing.T, c impl.Crew, s impl.State) {
	t.Helper()
	var want [][]int
	for _, step := range crewSteps(c, s) {
		want = append(want, step.trip)
	}
	if rides, ok := impl.RidesOfCrew(c, s); !ok || !sameLists(rides, want) {
		t.Fatalf("RidesOfCrew(%v, %s) = %v, %v, want %v", c, textOf(s), rides, ok, want)
	}
	for _, list := range setsOf(len(c.Weights)) {
		there, ok := impl.RideWithCrew(c, s, list)
		if is := isCrewRide(c, s, list); ok != is || !ok && !isZeroState(there) || ok && textOf(there) != behind(s, list) {
			t.Fatalf("RideWithCrew(%v, %s, %v) = %v, %v, want %v", c, textOf(s), list, there, ok, is)
		}
		if !ok {
			continue
		}
		if back, ok := impl.RideWithCrew(c, there, list); !ok || !sameState(back, s) {
			t.Fatalf("RideWithCrew(%v, %s, %v) = %v, %v", c, textOf(there), list, back, ok)
		}
	}
}

// All states, those with them that are not reached.
func TestRidesOfAllStates(t *testing.T) {
	crews := slices.Concat(crewsOf(1, 4), crewsOf(2, 4), crewsOf(3, 2))
	for n, c := range otherCrews(3) {
		if len(c.Weights) == 4 || n%23 == 0 && len(c.Weights) == 5 {
			crews = append(crews, c)
		}
	}
	for _, c := range crews {
		for _, s := range allStates(len(c.Weights)) {
			checkCrewRides(t, c, s)
		}
	}
}

func TestRidesOfSomeStates(t *testing.T) {
	for _, k := range []struct {
		crew, state string
		rides       [][]int
	}{
		{"100=50r,50r,100r", "...<", [][]int{{0}, {0, 1}, {1}, {2}}},
		{"100=50r,50r,100r", "xxx>", [][]int{{0}, {0, 1}, {1}, {2}}},
		{"100=50r,50r,100r", "x..<", [][]int{{1}, {2}}},
		{"100=50r,50r,100r", "x..>", [][]int{{0}}},
		{"100=50r,50r,100r", "..x>", [][]int{{2}}},
		// Boats that just carry some people, and boats that carry 1 less.
		{"200=50r,50r,100r", "...<", [][]int{{0}, {0, 1}, {0, 1, 2}, {0, 2}, {1}, {1, 2}, {2}}},
		{"199=50r,50r,100r", "...<", [][]int{{0}, {0, 1}, {0, 2}, {1}, {1, 2}, {2}}},
		{"149=50r,50r,100r", "...<", [][]int{{0}, {0, 1}, {1}, {2}}},
		{"99=50r,50r,100r", "...<", [][]int{{0}, {1}}},
		{"50=50r,50r,100r", "...<", [][]int{{0}, {1}}},
		{"49=50r,50r,100r", "...<", nil},
		{"0=1r", ".<", nil},
		{"0=1r", "x>", nil},
		{"1=1r", ".<", [][]int{{0}}},
		{"1=1r", "x>", [][]int{{0}}},
		// Somebody who can row has to be there.
		{"2000=1", ".<", nil},
		{"2000=1,2,3", "...<", nil},
		{"2000=1,2r,3", "...<", [][]int{{0, 1}, {0, 1, 2}, {1}, {1, 2}}},
		{"2000=1,2r,3", ".x.<", nil},
		{"2000=1,2r,3", ".x.>", [][]int{{1}}},
		{"2000=1,2r,3", "xxx>", [][]int{{0, 1}, {0, 1, 2}, {1}, {1, 2}}},
		{"3=1,2r,3", "...<", [][]int{{0, 1}, {1}}},
		{"2=3,2r,1", "...<", [][]int{{1}}},
		{"2=3r,2,1r", "...<", [][]int{{2}}},
	} {
		if rides, ok := impl.RidesOfCrew(crew(t, k.crew), stateOf(k.state)); !ok || !sameLists(rides, k.rides) {
			t.Error(k, rides, ok)
		}
	}
}

// The greatest crews: all rides there may be, and those of at most four people.
func TestRidesOfMaxCrew(t *testing.T) {
	sets := setsOf(impl.MaxCrew)[1:]
	light := impl.Crew{Weights: slices.Repeat([]int{1}, impl.MaxCrew), Rows: slices.Repeat([]bool{true}, impl.MaxCrew), Most: 7}
	heavy := impl.Crew{Weights: slices.Repeat([]int{impl.MaxWeight}, impl.MaxCrew), Rows: light.Rows, Most: impl.MaxMost}
	for _, text := range []string{".......<", "xxxxxxx>"} {
		s := stateOf(text)
		if rides, ok := impl.RidesOfCrew(light, s); !ok || len(rides) != 127 || !sameLists(rides, sets) {
			t.Error("light", len(rides), ok)
		}
		checkCrewRides(t, heavy, s)
		rides, ok := impl.RidesOfCrew(heavy, s)
		four := slices.DeleteFunc(slices.Clone(sets), func(list []int) bool { return len(list) > 4 })
		if !ok || len(rides) != 98 || !sameLists(rides, four) {
			t.Error("heavy", len(rides), ok)
		}
	}
	checkCrewRides(t, heavy, stateOf("x.xx.xx<"))
	checkCrewRides(t, heavy, stateOf("x.xx.xx>"))
}

func TestRidesOfCrewThatAreNone(t *testing.T) {
	c := crew(t, "100=50r,50,100r,30r")
	for _, k := range []struct {
		state string
		list  []int
	}{
		{"....<", nil}, {"....<", []int{}},
		{"....<", []int{1, 0}}, {"....<", []int{0, 0}}, {"....<", []int{3, 0}}, {"....<", []int{3, 3}}, {"....<", []int{0, 3, 1}},
		{"....<", []int{-1}}, {"....<", []int{-1, 0}}, {"....<", []int{4}}, {"....<", []int{3, 4}}, {"....<", []int{7}}, {"....<", []int{8}},
		{"....<", []int{math.MinInt}}, {"....<", []int{math.MaxInt}}, {"....<", []int{math.MinInt, math.MaxInt}}, {"....<", []int{0, math.MaxInt}}, {"....<", make([]int, 1000)},
		{"....<", []int{1}},       // cannot row
		{"....<", []int{0, 2}},    // too great a load
		{"....<", []int{0, 1, 3}}, // too great a load
		{"....<", []int{0, 1, 2, 3}},
		{"x...<", []int{0}}, {"x...<", []int{0, 3}}, {"x...>", []int{3}}, {"x...>", []int{0, 3}}, {"xxx.>", []int{3}}, {".x..>", []int{1}},
	} {
		if there, ok := impl.RideWithCrew(c, stateOf(k.state), k.list); ok || !isZeroState(there) {
			t.Errorf("RideWithCrew(%v, %s, %v) = %v, %v", c, k.state, k.list, there, ok)
		}
		if is, ok := impl.IsCrewPlan(c, [][]int{k.list}); is || !ok {
			t.Errorf("IsCrewPlan(%v, %v) = %v, %v", c, k.list, is, ok)
		}
	}
	for _, list := range [][]int{{0}, {0, 1}, {0, 3}, {1, 3}, {2}, {3}} {
		if there, ok := impl.RideWithCrew(c, stateOf("....<"), list); !ok || textOf(there) != behind(stateOf("....<"), list) {
			t.Errorf("RideWithCrew(%v, %v) = %v, %v", c, list, there, ok)
		}
	}
}

// All sets of people have loads, who can row or not, and however great.
func TestLoadOf(t *testing.T) {
	crews := slices.Concat(smallCrews(), otherCrews(1))
	crews = append(crews, impl.Crew{Weights: slices.Repeat([]int{impl.MaxWeight}, impl.MaxCrew), Rows: make([]bool, impl.MaxCrew)})
	for _, c := range crews {
		for _, list := range setsOf(len(c.Weights)) {
			if n, ok := impl.LoadOf(c, list); n != weightOf(c, list) || !ok {
				t.Fatalf("LoadOf(%v, %v) = %v, %v", c, list, n, ok)
			}
		}
	}
	for _, k := range []struct {
		crew string
		list []int
		load int
	}{
		{"100=50r,50r,100r", nil, 0}, {"100=50r,50r,100r", []int{}, 0}, {"100=50r,50r,100r", []int{0, 1}, 100}, {"100=50r,50r,100r", []int{0, 1, 2}, 200},
		{"0=1,2,4", []int{0, 2}, 5}, {"0=7", []int{0}, 7}, {"0=500,500,500,500,500,500,500", []int{0, 1, 2, 3, 4, 5, 6}, 3500},
	} {
		if n, ok := impl.LoadOf(crew(t, k.crew), k.list); n != k.load || !ok {
			t.Error(k, n, ok)
		}
	}
	c := crew(t, "100=50r,50r,100r")
	for _, list := range [][]int{
		{0, 0}, {1, 0}, {2, 1}, {0, 2, 1}, {0, 1, 1}, {-1}, {-1, 0}, {3}, {2, 3}, {6}, {7}, {8}, {0, 1, 2, 3}, {0, 1, 2, 3, 4, 5, 6, 7, 8},
		{math.MinInt}, {math.MaxInt}, {math.MinInt, math.MaxInt}, {1 << 32}, {1 << 62}, make([]int, 1000),
	} {
		if n, ok := impl.LoadOf(c, list); n != 0 || ok {
			t.Errorf("LoadOf(%v, %v) = %v, %v", c, list, n, ok)
		}
	}
	for _, c := range badCrews() {
		for _, list := range [][]int{nil, {0}, {0, 1}} {
			if n, ok := impl.LoadOf(c, list); n != 0 || ok {
				t.Errorf("LoadOf(%v, %v) = %v, %v", c, list, n, ok)
			}
		}
	}
}
