package tests

import (
	"math"
	"reflect"
	"slices"
	"testing"

	"loop.example/g01272/impl"
)

// rideCrews calls the functions of chapter 7 that are told more than a crew, and those that search nothing.
func rideCrews(c impl.Crew, s impl.State, lists [][]int, k int, text string) []result {
	var list []int
	if len(lists) > 0 {
		list = lists[0]
	}
	var all []result
	add := func(name string, value any, ok bool) { all = append(all, got(name, ok, value)) }
	add("IsCrew", impl.IsCrew(c), true)
	rides, ok := impl.RidesOfCrew(c, s)
	add("RidesOfCrew", rides, ok)
	there, ok := impl.RideWithCrew(c, s, list)
	add("RideWithCrew", there, ok)
	load, ok := impl.LoadOf(c, list)
	add("LoadOf", load, ok)
	isPlan, ok := impl.IsCrewPlan(c, lists)
	add("IsCrewPlan", isPlan, ok)
	taught, ok := impl.TeachPerson(c, k)
	add("TeachPerson", taught, ok)
	written, ok := impl.CrewText(c)
	add("CrewText", written, ok)
	parsed, ok := impl.ParseCrew(text)
	add("ParseCrew", parsed, ok)
	return all
}

// searchCrews calls the other functions of chapter 7, which search plans.
func searchCrews(c impl.Crew) []result {
	var all []result
	add := func(name string, value any, ok bool) { all = append(all, got(name, ok, value)) }
	fewest, ok := impl.FewestOfCrew(c)
	add("FewestOfCrew", fewest, ok)
	first, ok := impl.FirstOfCrew(c)
	add("FirstOfCrew", first, ok)
	count, ok := impl.CountOfCrew(c)
	add("CountOfCrew", count, ok)
	most, ok := impl.LeastMost(c)
	add("LeastMost", most, ok)
	carried, ok := impl.LeastCarried(c)
	add("LeastCarried", carried, ok)
	firstCarried, ok := impl.FirstCarried(c)
	add("FirstCarried", firstCarried, ok)
	needed, ok := impl.NeededRowers(c)
	add("NeededRowers", needed, ok)
	reached, ok := impl.CountReachedCrews(c)
	add("CountReachedCrews", reached, ok)
	return all
}

// callCrews calls all functions of chapter 7 with the same arguments.
func callCrews(c impl.Crew, s impl.State, lists [][]int, k int, text string) []result {
	return append(rideCrews(c, s, lists, k, text), searchCrews(c)...)
}

func TestCrewsThatAreNone(t *testing.T) {
	for _, c := range badCrews() {
		for _, s := range []impl.State{{}, stateOf(".<"), stateOf("...<"), stateOf("xxx>"), stateOf(".......<"), stateOf("........<"), {Over: make([]bool, len(c.Weights))}} {
			for _, r := range callCrews(c, s, [][]int{{0}}, 0, "") {
				if r.name == "IsCrew" {
					r.ok = false
				}
				checkFails(t, []any{c, s}, r)
			}
		}
	}
}

func TestStatesThatAreNoneOfCrews(t *testing.T) {
	c := crew(t, "100=50r,50r,100r,20r")
	for _, s := range badStates() {
		for _, r := range callCrews(c, s, [][]int{{0}}, 0, "0=1") {
			if r.name == "RidesOfCrew" || r.name == "RideWithCrew" {
				checkFails(t, s, r)
			} else if !r.ok {
				t.Errorf("%s, which is told no state, fails with %v", r.name, s)
			}
		}
	}
}

// Without a plan these fail, and the others answer all the same.
func TestCrewsWithoutPlan(t *testing.T) {
	for _, text := range []string{"0=1r", "2000=1", "99=50r,50r,100r", "100=50r,50,100r", "2000=500,500,500,500,500,500,500", "999=500r,500r,500r,500r,500r,500r,500r"} {
		c := crew(t, text)
		for _, r := range searchCrews(c) {
			switch r.name {
			case "FewestOfCrew", "FirstOfCrew", "LeastCarried", "FirstCarried":
				checkFails(t, text, r)
			case "CountOfCrew":
				if !r.ok || r.values[0] != 0 {
					t.Error(text, r)
				}
			case "NeededRowers":
				var all []int
				for k, rows := range c.Rows {
					if rows {
						all = append(all, k)
					}
				}
				if !r.ok || !slices.Equal(r.values[0].([]int), all) {
					t.Error(text, r)
				}
			case "LeastMost":
				if r.ok != slices.Contains(c.Rows, true) {
					t.Error(text, r)
				}
			default:
				if !r.ok {
					t.Error(text, r)
				}
			}
		}
	}
}

// Promise 11: a call that fails returns zero values, whatever the arguments are, and no call panics.
func TestCrewsAcceptAllArguments(t *testing.T) {
	numbers := []int{math.MinInt, -1, 0, 1, 3, 6, 7, 8, math.MaxInt}
	lists := [][][]int{
		nil, {}, {nil}, {{}, {0}}, {{0, 1}}, {{-1}}, {{math.MinInt, math.MaxInt}}, {{0, 1, 2, 3, 4, 5, 6}}, {{0, 1, 2, 3, 4, 5, 6, 7, 8}}, {{1, 0}}, {{1, 1}}, {{1 << 62}},
		{{6}}, {{7}}, longCrewPlan(5), longCrewPlan(39), longCrewPlan(41), shuttle(40), shuttle(41), make([][]int, 1000), {make([]int, 1000)},
	}
	texts := []string{"", "=", "1=", "100=50r,50r,100r", "1=1rr", "\xff\x00", "====,,,,rrrr", "99999999999999999999=1"}
	crews := slices.Concat(badCrews(), crewsOf(1, 2), crewsOf(2, 2), otherCrews(1))
	for _, c := range crews {
		states := badStates()
		for people := range impl.MaxCrew + 2 {
			s := impl.State{Over: make([]bool, people)}
			states = append(states, s, impl.State{Over: slices.Repeat([]bool{true}, people), Torch: true}, impl.State{Over: s.Over, Torch: true})
		}
		for n := range max(len(states), len(lists)) {
			s, l := states[n%len(states)], lists[n%len(lists)]
			for _, r := range rideCrews(c, s, l, numbers[n%len(numbers)], texts[n%len(texts)]) {
				if !r.ok {
					checkFails(t, []any{c, s, l}, r)
				}
			}
		}
		for _, r := range searchCrews(c) {
			if !r.ok {
				checkFails(t, c, r)
			}
		}
	}
}

// Promise 11: arguments are not modified, neither by a call nor by what is done to its results, and spare capacity is neither read nor written.
func TestCrewsModifyNoArguments(t *testing.T) {
	for _, c := range []struct {
		crew, state string
		lists       [][]int
		k           int
	}{
		{"1=1r", ".<", shuttle(3), 0},
		{"0=1", "x>", nil, 0},
		{"100=50r,50r,100r", "...<", longCrewPlan(5), 0},
		{"100=50r,50,100r", "xxx>", longCrewPlan(7), 1},
		{"100=50r,50r,100", "x..>", [][]int{{0}, {0, 2}}, 2},
		{"7=4r,7r,1r,7r,2r", ".....<", [][]int{{0, 2, 4}, {2, 1, 0}}, 3},
		{"2000=500,500r,500,500,500,500,500", "x.x.x.x<", [][]int{{1, 3, 5}}, 6},
		{"1000=500r,400r,300,200r,100,50r,25", ".......<", [][]int{{0, 1}}, 4},
	} {
		plain := callCrews(crew(t, c.crew), stateOf(c.state), c.lists, c.k, c.crew)
		for _, fill := range []bool{false, true} {
			mine := crew(t, c.crew)
			w := makeSpare(impl.Party{Times: mine.Weights}, stateOf(c.state), c.lists)
			w.rows = spare(mine.Rows, fill)
			told := impl.Crew{Weights: w.p.Times, Rows: w.rows, Most: mine.Most}
			checkArgumentsStay(t, c, w, plain, func() []result { return callCrews(told, w.s, w.lists, c.k, c.crew) })
		}
	}
}

func TestListsOfCrewsShareNoMemory(t *testing.T) {
	c := crew(t, "1000=300r,300r,300r,300r,300r,300r,300r")
	rides, _ := impl.RidesOfCrew(c, stateOf(".......<"))
	checkApart(t, rides)
	plan, _ := impl.FirstOfCrew(c)
	checkApart(t, plan)
	carried, _ := impl.FirstCarried(c)
	checkApart(t, carried)
	// What is taught to one crew does not come into another one.
	before := crew(t, "10=1,2,3")
	one, _ := impl.TeachPerson(before, 0)
	two, _ := impl.TeachPerson(before, 2)
	scribble(one)
	if crewText(before) != "10=1,2,3" || crewText(two) != "10=1,2,3r" {
		t.Error(before, two)
	}
}

// What depends on no order in which a map is gone through is the same each time.
func TestCrewsAreTheSameEachTime(t *testing.T) {
	for _, c := range append(otherCrews(1), crew(t, "1000=500r,500r,500r,500r,500r,500r,500r")) {
		s := impl.State{Over: make([]bool, len(c.Weights))}
		once := callCrews(c, s, [][]int{{0, 1}}, 0, "")
		for range 2 {
			if again := callCrews(c, s, [][]int{{0, 1}}, 0, ""); !reflect.DeepEqual(once, again) {
				t.Fatalf("%v: %v, and then %v", c, once, again)
			}
		}
	}
}
