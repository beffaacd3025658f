package tests

import (
	"math"
	"slices"
	"testing"

	"loop.example/g01272/impl"
)

// nobodyAndAll are the texts of the states of so many people in which nobody and in which all are over.
func nobodyAndAll(people int) (string, string) {
	nobody, all := make([]bool, people), slices.Repeat([]bool{true}, people)
	return textOf(impl.State{Over: nobody}), textOf(impl.State{Over: all, Torch: true})
}

// crewChart is the chart of a crew, on which loads are the times.
func crewChart(c impl.Crew) chart {
	return chartBy(len(c.Weights), func(s impl.State) []step { return crewSteps(c, s) })
}

// ferryOfCrew finds the ways of a crew from the rides that are found by going through all sets.
func ferryOfCrew(c chart) ferry[string] {
	return makeFerry(c.last, func(at string) []stride[string] {
		var rides []stride[string]
		for _, step := range c.steps[at] {
			rides = append(rides, stride[string]{step.trip, step.there})
		}
		return rides
	})
}

// leastBoat is the load of the heaviest ride of a plan in which it is the least, found by going on as long as some load gets less,
// or -1 if nobody can row. It does not look at what the crew's own boat carries.
func leastBoat(c impl.Crew) int {
	// No list of people is as heavy.
	all := with(c, impl.MaxCrew*impl.MaxWeight)
	nobody, everybody := nobodyAndAll(len(c.Weights))
	heaviest := map[string]int{nobody: 0}
	for changed := true; changed; {
		changed = false
		for _, s := range allStates(len(c.Weights)) {
			load, ok := heaviest[textOf(s)]
			if !ok {
				continue
			}
			for _, step := range crewSteps(all, s) {
				changed = lessen(heaviest, step.there, max(load, step.time)) || changed
			}
		}
	}
	if load, ok := heaviest[everybody]; ok {
		return load
	}
	return -1
}

// playCrew plays the rides of a plan one by one, and returns what they carry.
func playCrew(t *testing.T, c impl.Crew, lists [][]int) int {
	t.Helper()
	p := impl.Party{Times: slices.Repeat([]int{1}, len(c.Weights)), Seats: 1}
	at, _ := impl.FirstState(p)
	sum := 0
	for _, list := range lists {
		there, ok := impl.RideWithCrew(c, at, list)
		if !ok || textOf(there) != behind(at, list) {
			t.Fatalf("RideWithCrew(%v, %s, %v) = %v, %v", c, textOf(at), list, there, ok)
		}
		load, ok := impl.LoadOf(c, list)
		if !ok || load > c.Most || !slices.ContainsFunc(list, func(k int) bool { return c.Rows[k] }) {
			t.Fatalf("%v, %s: the load of %v is %v, %v", c, textOf(at), list, load, ok)
		}
		sum += load
		at = there
	}
	if last, ok := impl.LastState(p); !ok || !sameState(at, last) {
		t.Fatalf("%v lead %v to %s", lists, c, textOf(at))
	}
	if is, ok := impl.IsCrewPlan(c, lists); !is || !ok {
		t.Fatalf("IsCrewPlan(%v, %v) = %v, %v", c, lists, is, ok)
	}
	return sum
}

// checkFewest checks what is told of the plans of a crew of the fewest rides, and of the states that are reached.
func checkFewest(t *testing.T, c impl.Crew, h chart) {
	t.Helper()
	f := ferryOfCrew(h)
	reached := f.reached(h.first)
	if n, ok := impl.CountReachedCrews(c); n != reached || !ok {
		t.Fatalf("CountReachedCrews(%v) = %v, %v, want %v", c, n, ok, reached)
	}
	// A shortest plan comes into no state twice.
	rides, count, plan := f.fewest(h.first, reached), 0, [][]int(nil)
	has := rides >= 0
	if has {
		count, plan = f.countIn(h.first, rides), f.firstIn(h.first, rides)
	}
	if n, ok := impl.FewestOfCrew(c); n != max(0, rides) || ok != has {
		t.Fatalf("FewestOfCrew(%v) = %v, %v, want %v", c, n, ok, rides)
	}
	lists, ok := impl.FirstOfCrew(c)
	if ok != has || !sameLists(lists, plan) {
		t.Fatalf("FirstOfCrew(%v) = %v, %v, want %v, %v", c, lists, ok, plan, has)
	}
	if n, ok := impl.CountOfCrew(c); n != count || !ok {
		t.Fatalf("CountOfCrew(%v) = %v, %v, want %v", c, n, ok, count)
	}
	if has {
		playCrew(t, c, lists)
	}
}

// firstOnChart is the lexicographically first plan of the least sum, found by going the first way that loses nothing.
func firstOnChart(h chart) [][]int {
	var plan [][]int
	for at := h.first; at != h.last; {
		n := slices.IndexFunc(h.steps[at], func(s step) bool { return s.time+h.from[s.there] == h.from[at] })
		plan = append(plan, h.steps[at][n].trip)
		at = h.steps[at][n].there
	}
	return plan
}

// checkCarried checks what is told of the plans of a crew that carry the least.
func checkCarried(t *testing.T, c impl.Crew, h chart) {
	t.Helper()
	has := h.hasPlan()
	if n, ok := impl.LeastCarried(c); n != h.least() || ok != has {
		t.Fatalf("LeastCarried(%v) = %v, %v, want %v, %v", c, n, ok, h.least(), has)
	}
	var plan [][]int
	if has {
		plan = firstOnChart(h)
	}
	if h.count() > 0 && h.count() < 200 {
		var plans [][][]int
		h.bestPlans(h.first, nil, &plans, map[string]bool{})
		plan = slices.MinFunc(plans, comparePlans)
	}
	lists, ok := impl.FirstCarried(c)
	if ok != has || !sameLists(lists, plan) {
		t.Fatalf("FirstCarried(%v) = %v, %v, want %v, %v", c, lists, ok, plan, has)
	}
	if has && playCrew(t, c, lists) != h.least() {
		t.Fatalf("%v of %v do not carry %v", lists, c, h.least())
	}
}

// with is the crew with another boat.
func with(c impl.Crew, most int) impl.Crew {
	return impl.Crew{Weights: c.Weights, Rows: c.Rows, Most: most}
}

// checkLeastMost checks promise 7: least boats are enough and less is not.
func checkLeastMost(t *testing.T, c impl.Crew) {
	t.Helper()
	want := leastBoat(c)
	least, ok := impl.LeastMost(c)
	if ok != (want >= 0) || least != max(0, want) {
		t.Fatalf("LeastMost(%v) = %v, %v, want %v", c, least, ok, want)
	}
	if !ok {
		if slices.Contains(c.Rows, true) {
			t.Fatalf("LeastMost(%v) fails, but somebody can row", c)
		}
		return
	}
	if n, ok := impl.FewestOfCrew(with(c, least)); n < 1 || !ok {
		t.Fatalf("%v has no plan with its least boat of %d: %v", c, least, n)
	}
	if n, ok := impl.FewestOfCrew(with(c, least-1)); n != 0 || ok {
		t.Fatalf("%v has a plan of %d rides with %d, but its least boat is %d", c, n, least-1, least)
	}
	if n, ok := impl.FewestOfCrew(c); ok != (c.Most >= least) {
		t.Fatalf("FewestOfCrew(%v) = %v, %v, but the least boat is %d", c, n, ok, least)
	}
}

// unable is the crew in which a person cannot row.
func unable(c impl.Crew, k int) impl.Crew {
	rows := slices.Clone(c.Rows)
	rows[k] = false
	return impl.Crew{Weights: c.Weights, Rows: rows, Most: c.Most}
}

// checkNeeded checks NeededRowers against the crews in which one alone cannot row.
func checkNeeded(t *testing.T, c impl.Crew) {
	t.Helper()
	var want []int
	for k, rows := range c.Rows {
		if rows && !crewChart(unable(c, k)).hasPlan() {
			want = append(want, k)
		}
	}
	needed, ok := impl.NeededRowers(c)
	if !ok || !slices.Equal(needed, want) {
		t.Fatalf("NeededRowers(%v) = %v, %v, want %v", c, needed, ok, want)
	}
	for k := range c.Rows {
		_, has := impl.FewestOfCrew(unable(c, k))
		if has == slices.Contains(needed, k) && c.Rows[k] {
			t.Fatalf("NeededRowers(%v) = %v, but if %d cannot row it has a plan: %v", c, needed, k, has)
		}
	}
}

func checkCrew(t *testing.T, c impl.Crew) {
	t.Helper()
	h := crewChart(c)
	checkFewest(t, c, h)
	checkCarried(t, c, h)
	checkLeastMost(t, c)
	checkNeeded(t, c)
}

// Promise 7, with all crews of few people, and all that is told of their plans.
func TestAllSmallCrews(t *testing.T) {
	for _, c := range smallCrews() {
		checkCrew(t, c)
	}
}

// Promise 7, with more people and greater weights.
func TestOtherCrews(t *testing.T) {
	for _, c := range otherCrews(4) {
		checkCrew(t, c)
	}
	// In these more rides than the fewest carry less.
	for _, text := range []string{"25=25r,24r,11r,2r,8r", "22=13r,17r,1r,16r,2r,9r", "30=11r,20,19r,5,20r,1r,3r", "14=1r,10,8r,2r,6,10r,1"} {
		c := crew(t, text)
		checkCrew(t, c)
		fewest, _ := impl.FewestOfCrew(c)
		if lists, ok := impl.FirstCarried(c); len(lists) <= fewest || !ok {
			t.Error(text, fewest, lists, ok)
		}
	}
}

func TestSomeCrews(t *testing.T) {
	none := []int(nil)
	for _, k := range []struct {
		crew                                 string
		rides, count, reached, most, carried int
		needed                               []int
	}{
		// One person alone crosses, or stays.
		{"0=1r", 0, 0, 1, 1, 0, []int{0}},
		{"1=1r", 1, 1, 2, 1, 1, []int{0}},
		{"499=500r", 0, 0, 1, 500, 0, []int{0}},
		{"500=500r", 1, 1, 2, 500, 500, []int{0}},
		{"2000=500r", 1, 1, 2, 500, 500, []int{0}},
		{"0=1", 0, 0, 1, 0, 0, none},
		{"2000=1", 0, 0, 1, 0, 0, none},
		// Nobody can row.
		{"2000=1,1,1", 0, 0, 1, 0, 0, none},
		{"2000=500,500,500,500,500,500,500", 0, 0, 1, 0, 0, none},
		// Of two, one rows, or they wait for each other.
		{"2=1r,1r", 1, 1, 6, 2, 2, none},
		{"2=1r,1", 1, 1, 4, 2, 2, []int{0}},
		{"1=1r,1r", 0, 0, 3, 2, 0, []int{0, 1}},
		{"1=1r,1", 0, 0, 2, 2, 0, []int{0}},
		{"1=1,2r", 0, 0, 1, 3, 0, []int{1}},
		// The first plan lets the heavier one of those who can row come back, and the one that carries least the other.
		{"3=2r,1r,1", 3, 4, 12, 3, 6, none},
		// One who can row fetches the others one by one.
		{"10=5r,5,5", 3, 2, 8, 10, 25, []int{0}},
		{"1000=500r,500,500,500,500,500,500", 11, 720, 128, 1000, 8500, []int{0}},
		// One rides with three others, and then with the other three.
		{"2000=500r,500,500,500,500,500,500", 3, 20, 128, 1000, 4500, []int{0}},
		// 21 pairs go over and one of two comes back, 15 and one of three, 10 and one of four, 6 and one of five, 3 and one of six.
		{"1000=500r,500r,500r,500r,500r,500r,500r", 11, 21 * 2 * 15 * 3 * 10 * 4 * 6 * 5 * 3 * 6, 254, 1000, 8500, none},
		{"999=500r,500r,500r,500r,500r,500r,500r", 0, 0, 8, 1000, 0, []int{0, 1, 2, 3, 4, 5, 6}},
		{"2000=1r,1r,1r,1r,1r,1r,1r", 1, 1, 254, 2, 7, none},
		// Two children help five adults over, in any order, and either of them comes back first.
		{"2=1r,1r,2r,2r,2r,2r,2r", 21, 120 * 32, 254, 2, 32, []int{0, 1, 2, 3, 4, 5, 6}},
	} {
		c := crew(t, k.crew)
		has := k.rides > 0
		if n, ok := impl.FewestOfCrew(c); n != k.rides || ok != has {
			t.Error("fewest", k, n, ok)
		}
		if lists, ok := impl.FirstOfCrew(c); len(lists) != k.rides || ok != has {
			t.Error("first", k, lists, ok)
		}
		if n, ok := impl.CountOfCrew(c); n != k.count || !ok {
			t.Error("count", k, n, ok)
		}
		if n, ok := impl.CountReachedCrews(c); n != k.reached || !ok {
			t.Error("reached", k, n, ok)
		}
		if n, ok := impl.LeastMost(c); n != k.most || ok != (k.most > 0) {
			t.Error("most", k, n, ok)
		}
		if n, ok := impl.LeastCarried(c); n != k.carried || ok != has {
			t.Error("carried", k, n, ok)
		}
		if lists, ok := impl.FirstCarried(c); (len(lists) > 0) != has || ok != has {
			t.Error("first carried", k, lists, ok)
		}
		if list, ok := impl.NeededRowers(c); !ok || !slices.Equal(list, k.needed) {
			t.Error("needed", k, list, ok)
		}
		checkCrew(t, c)
	}
}

func TestFirstPlansOfCrews(t *testing.T) {
	for _, k := range []struct {
		crew           string
		first, carried [][]int
	}{
		{"100=50r,50r,100r", [][]int{{0, 1}, {0}, {2}, {1}, {0, 1}}, [][]int{{0, 1}, {0}, {2}, {1}, {0, 1}}},
		{"3=2r,1r,1", [][]int{{0, 1}, {0}, {0, 2}}, [][]int{{0, 1}, {1}, {1, 2}}},
		{"10=5r,5,5", [][]int{{0, 1}, {0}, {0, 2}}, [][]int{{0, 1}, {0}, {0, 2}}},
		{"10=5,5,5r", [][]int{{0, 2}, {2}, {1, 2}}, [][]int{{0, 2}, {2}, {1, 2}}},
		{"7=7r", [][]int{{0}}, [][]int{{0}}},
		{"1=1,1,1r", nil, nil},
		{"3=1,1,1r", [][]int{{0, 1, 2}}, [][]int{{0, 1, 2}}},
		// Two rides more carry less: 33 instead of 35.
		{
			"7=4r,7r,1r,7r,2r",
			[][]int{{0, 2, 4}, {0}, {1}, {2}, {3}, {4}, {0, 2, 4}},
			[][]int{{0, 2, 4}, {2}, {1}, {4}, {2, 4}, {2}, {3}, {4}, {2, 4}},
		},
	} {
		c, has := crew(t, k.crew), k.first != nil
		checkCrew(t, c)
		if lists, ok := impl.FirstOfCrew(c); ok != has || !sameLists(lists, k.first) {
			t.Error("first", k, lists, ok)
		}
		if lists, ok := impl.FirstCarried(c); ok != has || !sameLists(lists, k.carried) {
			t.Error("carried", k, lists, ok)
		}
	}
}

// Somebody who can row fetches all others one by one, so that no boat has to carry more than two people: LeastMost, which may be
// more than MaxMost by its contract, never is.
func TestGreatestLeastMost(t *testing.T) {
	for people := 1; people <= impl.MaxCrew; people++ {
		for rowers := range 1 << people {
			c := crewOf(slices.Repeat([]int{impl.MaxWeight}, people), rowers, impl.MaxMost)
			want := 2 * impl.MaxWeight
			if people == 1 {
				want = impl.MaxWeight
			}
			if rowers == 0 {
				want = 0
			}
			if n, ok := impl.LeastMost(c); n != want || ok != (rowers > 0) {
				t.Errorf("LeastMost(%v) = %v, %v, want %v", c, n, ok, want)
			}
			if n, ok := impl.FewestOfCrew(c); ok != (rowers > 0) {
				t.Errorf("FewestOfCrew(%v) = %v, %v", c, n, ok)
			}
		}
	}
}

// LeastMost does not depend on the boat that there is.
func TestLeastMostOfAllBoats(t *testing.T) {
	c := crew(t, "0=50r,50r,100r,3")
	for most := range impl.MaxMost + 1 {
		if n, ok := impl.LeastMost(with(c, most)); n != 100 || !ok {
			t.Fatal(most, n, ok)
		}
		if n, ok := impl.FewestOfCrew(with(c, most)); ok != (most >= 100) {
			t.Fatal(most, n, ok)
		}
	}
}

// longCrewPlan is a plan of the example's crew: so many rides, an odd number of at least 5.
func longCrewPlan(rides int) [][]int {
	var list [][]int
	for len(list)+5 < rides {
		list = append(list, []int{0}, []int{0})
	}
	return append(list, []int{0, 1}, []int{0}, []int{2}, []int{1}, []int{0, 1})
}

func TestIsCrewPlan(t *testing.T) {
	c := crew(t, "100=50r,50r,100r")
	good := longCrewPlan(5)
	for _, k := range []struct {
		lists [][]int
		want  bool
	}{
		{good, true},
		{longCrewPlan(7), true},
		{longCrewPlan(39), true},
		// Rides may go on behind the end, if they come back to it.
		{append(longCrewPlan(5), []int{2}, []int{2}), true},
		{nil, false},
		{[][]int{}, false},
		{[][]int{nil}, false},
		{[][]int{{}}, false},
		{append(longCrewPlan(5), nil), false},
		{append([][]int{nil}, good...), false},
		{good[:4], false},
		{good[1:], false},
		{append(longCrewPlan(5), []int{2}), false},
		{append(longCrewPlan(39), []int{2}), false},
		{[][]int{{0, 1}, {0}, {2}, {1}, {1, 0}}, false},
		{[][]int{{0, 1}, {0}, {2}, {0}, {0, 1}}, false},
		{[][]int{{0, 1, 2}}, false},
		{[][]int{{0, 2}, {0}, {0, 1}}, false},
		{[][]int{{-1}}, false},
		{[][]int{{3}}, false},
		{[][]int{{math.MinInt, math.MaxInt}}, false},
		{make([][]int, 40), false},
		{[][]int{make([]int, 1000)}, false},
	} {
		if is, ok := impl.IsCrewPlan(c, k.lists); is != k.want || !ok {
			t.Errorf("IsCrewPlan(%v, %v) = %v, %v", c, k.lists, is, ok)
		}
	}
	for _, lists := range [][][]int{longCrewPlan(41), make([][]int, 41), make([][]int, 1000)} {
		if is, ok := impl.IsCrewPlan(c, lists); is || ok {
			t.Errorf("IsCrewPlan of %d lists = %v, %v", len(lists), is, ok)
		}
	}
	for _, bad := range badCrews() {
		for _, lists := range [][][]int{nil, good, {{0}}} {
			if is, ok := impl.IsCrewPlan(bad, lists); is || ok {
				t.Errorf("IsCrewPlan(%v, %v) = %v, %v", bad, lists, is, ok)
			}
		}
	}
}

// One person goes to and fro: plans have an odd number of rides, and 40 lists may be asked about, but not 41.
func TestShuttleOfCrew(t *testing.T) {
	for rides := range 45 {
		for _, text := range []string{"7=7r", "6=7r", "7=7"} {
			is, ok := impl.IsCrewPlan(crew(t, text), shuttle(rides))
			if want := text == "7=7r" && rides%2 == 1 && rides <= 40; is != want || ok != (rides <= 40) {
				t.Errorf("IsCrewPlan of %s and %d rides = %v, %v", text, rides, is, ok)
			}
		}
	}
}

// checkAllLists holds IsCrewPlan against all lists of at most so many increasing lists of people.
func checkAllLists(t *testing.T, c impl.Crew, most int) {
	t.Helper()
	sets := setsOf(len(c.Weights))
	nobody, everybody := nobodyAndAll(len(c.Weights))
	var check func(lists [][]int, at string)
	check = func(lists [][]int, at string) {
		if is, ok := impl.IsCrewPlan(c, lists); is != (at == everybody) || !ok {
			t.Fatalf("IsCrewPlan(%v, %v) = %v, %v", c, lists, is, ok)
		}
		if len(lists) == most {
			return
		}
		for _, list := range sets {
			there := ""
			if at != "" && isCrewRide(c, stateOf(at), list) {
				there = behind(stateOf(at), list)
			}
			check(append(slices.Clip(lists), list), there)
		}
	}
	check(nil, nobody)
}

func TestIsCrewPlanOfAllShortLists(t *testing.T) {
	for _, text := range []string{"1=1r", "0=1r", "1=1", "3=1r,2", "2=1r,2r", "2=1r,1r", "3=1,2r"} {
		checkAllLists(t, crew(t, text), 4)
	}
	for _, text := range []string{"3=2r,1r,1", "100=50r,50r,100r", "2=1r,1r,1r", "3=1,1,1r"} {
		checkAllLists(t, crew(t, text), 3)
	}
}
