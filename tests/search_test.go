package tests

import (
	"math"
	"slices"
	"testing"

	"loop.example/g01272/impl"
)

// step is a trip from a state that is told by the chart.
type step struct {
	trip  []int
	time  int
	there string
}

// chart tells of all states of a party, by their texts, what is found by going on as long as some time gets less.
// A state that is not reached, or from which the end is not reached, has no time in it.
type chart struct {
	p           impl.Party
	states      []impl.State
	steps       map[string][]step
	to, from    map[string]int
	first, last string
}

// inOrder are all states of so many people, sorted: the torch not over first, then those with . before those with x.
func inOrder(people int) []impl.State {
	states := allStates(people)
	key := func(s impl.State) string {
		text := textOf(s)
		return text[people:] + text[:people]
	}
	slices.SortFunc(states, func(a, b impl.State) int {
		if key(a) < key(b) {
			return -1
		}
		return 1
	})
	return states
}

// behind is the text of the state behind a trip.
func behind(s impl.State, trip []int) string {
	there := impl.State{Over: slices.Clone(s.Over), Torch: !s.Torch}
	for _, k := range trip {
		there.Over[k] = !there.Over[k]
	}
	return textOf(there)
}

func slowestOf(times []int, trip []int) int {
	most := 0
	for _, k := range trip {
		most = max(most, times[k])
	}
	return most
}

// lessen lowers the time of a state, and reports whether that changes it.
func lessen(times map[string]int, state string, time int) bool {
	if known, ok := times[state]; ok && known <= time {
		return false
	}
	times[state] = time
	return true
}

func chartOf(p impl.Party) chart {
	c := chartBy(len(p.Times), func(s impl.State) []step {
		var steps []step
		for _, trip := range tripsBySets(p, s) {
			steps = append(steps, step{trip, slowestOf(p.Times, trip), behind(s, trip)})
		}
		return steps
	})
	c.p = p
	return c
}

// chartBy is the chart of so many people, but for their party, by the trips in each state, in order.
func chartBy(people int, stepsIn func(impl.State) []step) chart {
	c := chart{states: inOrder(people), steps: map[string][]step{}, to: map[string]int{}, from: map[string]int{}}
	for _, s := range c.states {
		c.steps[textOf(s)] = stepsIn(s)
	}
	c.first = textOf(c.states[0])
	c.last = textOf(c.states[len(c.states)-1])
	c.to[c.first], c.from[c.last] = 0, 0
	for changed := true; changed; {
		changed = false
		for _, s := range c.states {
			changed = c.relax(textOf(s)) || changed
		}
	}
	return c
}

// relax lowers the times that the trips from a state make less.
func (c chart) relax(at string) bool {
	changed := false
	for _, step := range c.steps[at] {
		if time, ok := c.to[at]; ok {
			changed = lessen(c.to, step.there, time+step.time) || changed
		}
		if time, ok := c.from[step.there]; ok {
			changed = lessen(c.from, at, time+step.time) || changed
		}
	}
	return changed
}

func (c chart) hasPlan() bool {
	_, ok := c.from[c.first]
	return ok
}

func (c chart) least() int { return c.from[c.first] }

// countFrom is how many ways in the least time lead on from a state.
func (c chart) countFrom(at string, known map[string]int) int {
	if at == c.last {
		return 1
	}
	if count, ok := known[at]; ok {
		return count
	}
	count := 0
	for _, step := range c.steps[at] {
		if step.time+c.from[step.there] == c.from[at] {
			count += c.countFrom(step.there, known)
		}
	}
	known[at] = count
	return count
}

// count is how many best plans there are.
func (c chart) count() int {
	if !c.hasPlan() {
		return 0
	}
	return c.countFrom(c.first, map[string]int{})
}

// bestPlans adds to plans all that go on in the least time from a state behind some trips, and marks the states on them.
func (c chart) bestPlans(at string, gone [][]int, plans *[][][]int, on map[string]bool) {
	on[at] = true
	if at == c.last {
		*plans = append(*plans, slices.Clone(gone))
		return
	}
	for _, step := range c.steps[at] {
		if step.time+c.from[step.there] == c.from[at] {
			c.bestPlans(step.there, append(slices.Clip(gone), step.trip), plans, on)
		}
	}
}

// fewest is the least number of trips of a plan, found by going one trip further again and again.
func (c chart) fewest() int {
	seen := map[string]bool{c.first: true}
	edge := []string{c.first}
	for trips := 0; len(edge) > 0; trips++ {
		var next []string
		for _, at := range edge {
			if at == c.last {
				return trips
			}
			for _, step := range c.steps[at] {
				if !seen[step.there] {
					seen[step.there] = true
					next = append(next, step.there)
				}
			}
		}
		edge = next
	}
	return -1
}

func comparePlans(a, b [][]int) int { return slices.CompareFunc(a, b, slices.Compare[[]int]) }

// checkTimes checks the times to and from the states of a chart: promise 3.
func checkTimes(t *testing.T, c chart, states []impl.State) {
	t.Helper()
	for _, s := range states {
		text := textOf(s)
		to, reached := impl.TimeTo(c.p, s)
		if want, ok := c.to[text]; to != want || reached != ok {
			t.Fatalf("TimeTo(%v, %s) = %v, %v, want %v, %v", c.p, text, to, reached, want, ok)
		}
		from, leads := impl.TimeFrom(c.p, s)
		if want, ok := c.from[text]; from != want || leads != ok {
			t.Fatalf("TimeFrom(%v, %s) = %v, %v, want %v, %v", c.p, text, from, leads, want, ok)
		}
		on, ok := impl.IsOnBest(c.p, s)
		if ok != c.hasPlan() || on && !ok {
			t.Fatalf("IsOnBest(%v, %s) = %v, %v", c.p, text, on, ok)
		}
		least, fine := impl.LeastTime(c.p)
		if ok && (!fine || !reached || !leads || to+from < least || on != (to+from == least)) {
			t.Fatalf("%v, %s: %d to it and %d from it, %d in all, on a best plan: %v", c.p, text, to, from, least, on)
		}
	}
}

// checkReached checks how many states are reached in times that make a difference, or many of them, and which ones are the farthest.
func checkReached(t *testing.T, c chart) {
	t.Helper()
	waits := []int{0, 1, impl.MaxWait}
	most := 0
	for _, time := range c.to {
		waits = append(waits, max(0, time-1), time, time+1)
		most = max(most, time)
	}
	slices.Sort(waits)
	waits = slices.Compact(waits)
	for i := 0; i < len(waits); i += 1 + len(waits)/100 {
		wait, want := waits[i], 0
		for _, time := range c.to {
			if time <= wait {
				want++
			}
		}
		if n, ok := impl.ReachedIn(c.p, wait); n != want || !ok {
			t.Fatalf("ReachedIn(%v, %d) = %v, %v, want %v", c.p, wait, n, ok, want)
		}
	}
	var far []impl.State
	for _, s := range c.states {
		if c.to[textOf(s)] == most {
			far = append(far, s)
		}
	}
	all := len(c.to) == len(c.states)
	if !all {
		far, most = nil, 0
	}
	states, time, ok := impl.FarthestStates(c.p)
	if ok != all || time != most || !slices.EqualFunc(states, far, sameState) {
		t.Fatalf("FarthestStates(%v) = %v, %v, %v, want %v, %v, %v", c.p, states, time, ok, far, most, all)
	}
}

// checkPlans checks the least numbers and the first best plan, which is played.
func checkPlans(t *testing.T, c chart) {
	t.Helper()
	has := c.hasPlan()
	if n, ok := impl.LeastTime(c.p); n != c.least() || ok != has {
		t.Fatalf("LeastTime(%v) = %v, %v, want %v, %v", c.p, n, ok, c.least(), has)
	}
	if n, ok := impl.CountBest(c.p); n != c.count() || !ok {
		t.Fatalf("CountBest(%v) = %v, %v, want %v", c.p, n, ok, c.count())
	}
	if n, ok := impl.FewestTrips(c.p); ok != has || has && n != c.fewest() || !has && n != 0 {
		t.Fatalf("FewestTrips(%v) = %v, %v, want %v, %v", c.p, n, ok, c.fewest(), has)
	}
	plan, ok := impl.FirstBest(c.p)
	if ok != has || !has && len(plan) > 0 {
		t.Fatalf("FirstBest(%v) = %v, %v", c.p, plan, ok)
	}
	if n, ok := impl.PlanTime(c.p, plan); has && (n != c.least() || !ok) {
		t.Fatalf("PlanTime(%v, %v) = %v, %v, want %v", c.p, plan, n, ok, c.least())
	}
}

// checkAllPlans checks what is told of all best plans, by making all of them. There have to be few. Of very many states only some are asked about.
func checkAllPlans(t *testing.T, c chart) {
	t.Helper()
	var plans [][][]int
	on := map[string]bool{}
	if c.hasPlan() {
		c.bestPlans(c.first, nil, &plans, on)
	}
	slices.SortFunc(plans, comparePlans)
	fewest, trips := 0, [][]int{}
	var first [][]int
	for i, plan := range plans {
		if i == 0 {
			first, fewest = plan, len(plan)
		}
		if is, ok := impl.IsPlan(c.p, plan); !is || !ok {
			t.Fatalf("IsPlan(%v, %v) = %v, %v", c.p, plan, is, ok)
		}
		fewest = min(fewest, len(plan))
		if len(trips) == 0 || !slices.Equal(trips[len(trips)-1], plan[0]) {
			trips = append(trips, plan[0])
		}
	}
	has := len(plans) > 0
	if plan, ok := impl.FirstBest(c.p); !sameLists(plan, first) || ok != has {
		t.Fatalf("FirstBest(%v) = %v, %v, want %v, %v", c.p, plan, ok, first, has)
	}
	if list, ok := impl.BestFirstTrips(c.p); !sameLists(list, trips) || ok != has {
		t.Fatalf("BestFirstTrips(%v) = %v, %v, want %v, %v", c.p, list, ok, trips, has)
	}
	if n, ok := impl.CountBest(c.p); n != len(plans) || !ok {
		t.Fatalf("CountBest(%v) = %v, %v, want %v", c.p, n, ok, len(plans))
	}
	if n, ok := impl.FewestOfBest(c.p); n != fewest || ok != has {
		t.Fatalf("FewestOfBest(%v) = %v, %v, want %v, %v", c.p, n, ok, fewest, has)
	}
	if n, ok := impl.CountOnBest(c.p); n != len(on) || ok != has {
		t.Fatalf("CountOnBest(%v) = %v, %v, want %v, %v", c.p, n, ok, len(on), has)
	}
	for i := 0; i < len(c.states); i += 1 + len(c.states)/100 {
		s := c.states[i]
		if is, ok := impl.IsOnBest(c.p, s); is != on[textOf(s)] || ok != has {
			t.Fatalf("IsOnBest(%v, %s) = %v, %v, want %v, %v", c.p, textOf(s), is, ok, on[textOf(s)], has)
		}
	}
}

// checkOthers checks what is told of parties with other people or seats.
func checkOthers(t *testing.T, c chart) {
	t.Helper()
	for k := range c.p.Times {
		cost, ok := impl.CostOf(c.p, k)
		if len(c.p.Times) == 1 {
			if cost != 0 || ok {
				t.Fatalf("CostOf(%v, %d) = %v, %v", c.p, k, cost, ok)
			}
			continue
		}
		rest := chartOf(impl.Party{Times: slices.Delete(slices.Clone(c.p.Times), k, k+1), Seats: c.p.Seats})
		want, both := 0, c.hasPlan() && rest.hasPlan()
		if both {
			want = c.least() - rest.least()
		}
		if cost != want || ok != both {
			t.Fatalf("CostOf(%v, %d) = %v, %v, want %v, %v", c.p, k, cost, ok, want, both)
		}
	}
	var want []int
	for seats := 1; seats <= 3; seats++ {
		other := chartOf(impl.Party{Times: c.p.Times, Seats: seats})
		time := -1
		if other.hasPlan() {
			time = other.least()
		}
		want = append(want, time)
	}
	if times, ok := impl.TimesBySeats(c.p); !slices.Equal(times, want) || !ok {
		t.Fatalf("TimesBySeats(%v) = %v, %v, want %v", c.p, times, ok, want)
	}
}

// checkSearch checks all that chapter 3 tells of a party.
func checkSearch(t *testing.T, p impl.Party) {
	t.Helper()
	c := chartOf(p)
	checkPlans(t, c)
	checkTimes(t, c, c.states)
	checkReached(t, c)
	checkAllPlans(t, c)
	checkOthers(t, c)
}

func TestExampleOfChapter3(t *testing.T) {
	p := party(t, "2:1,2,5,10")
	if n, ok := impl.LeastTime(p); n != 17 || !ok {
		t.Error("least", n, ok)
	}
	if plan, ok := impl.FirstBest(p); !ok || !sameLists(plan, examplePlan) {
		t.Error("plan", plan, ok)
	}
	if n, ok := impl.CountBest(p); n != 2 || !ok {
		t.Error("count", n, ok)
	}
	other := [][]int{{0, 1}, {1}, {2, 3}, {0}, {0, 1}}
	if n, ok := impl.PlanTime(p, other); n != 17 || !ok {
		t.Error("1 goes back at first", n, ok)
	}
	if trips, ok := impl.BestFirstTrips(p); !ok || !sameLists(trips, [][]int{{0, 1}}) {
		t.Error("first trips", trips, ok)
	}
	if n, ok := impl.FewestTrips(p); n != 5 || !ok {
		t.Error("fewest", n, ok)
	}
	if n, ok := impl.FewestOfBest(p); n != 5 || !ok {
		t.Error("fewest of best", n, ok)
	}
	if times, ok := impl.TimesBySeats(p); !ok || !slices.Equal(times, []int{-1, 17, 13}) {
		t.Error("by seats", times, ok)
	}
	if n, ok := impl.CostOf(p, 3); n != 9 || !ok {
		t.Error("cost", n, ok)
	}
	if n, ok := impl.LeastTime(party(t, "2:1,2,5")); n != 8 || !ok {
		t.Error("three people", n, ok)
	}
	// Each of both plans passes six states, four of which are those of the other one, too.
	if n, ok := impl.CountOnBest(p); n != 8 || !ok {
		t.Error("on best", n, ok)
	}
}

// Promise 3, with all parties of few people, and the other functions as well.
func TestAllSmallParties(t *testing.T) {
	for _, c := range []struct{ people, most int }{{1, 9}, {2, 6}, {3, 4}, {4, 3}} {
		for _, times := range allTimes(c.people, c.most) {
			for seats := 1; seats <= impl.MaxSeats; seats++ {
				checkSearch(t, impl.Party{Times: times, Seats: seats})
			}
		}
	}
}

// Promise 3, with more people and greater times.
func TestSomeParties(t *testing.T) {
	for _, c := range []struct{ people, most, lists int }{{4, 9, 12}, {4, 1000, 12}, {5, 4, 6}, {5, 12, 6}, {5, 1000, 6}, {6, 30, 2}} {
		for _, times := range someTimes(c.people, c.most, c.lists) {
			for seats := 1; seats <= impl.MaxSeats; seats++ {
				checkSearch(t, impl.Party{Times: times, Seats: seats})
			}
		}
	}
}

// Parties of MaxPeople people, with all numbers of seats, and with several people of the same time.
func TestGreatestParties(t *testing.T) {
	for _, times := range [][]int{{1000, 7, 1, 1, 3, 999, 2, 8}, {3, 3, 3, 3, 3, 3, 3, 3}, {1, 1, 1, 1, 1000, 1000, 1000, 1000}, {8, 7, 6, 5, 4, 3, 2, 1}} {
		for seats := 1; seats <= impl.MaxSeats; seats++ {
			c := chartOf(impl.Party{Times: times, Seats: seats})
			checkPlans(t, c)
			checkReached(t, c)
			checkOthers(t, c)
			some := []impl.State{c.states[0], c.states[len(c.states)-1]}
			for i := 5; i < len(c.states); i += 23 {
				some = append(some, c.states[i])
			}
			checkTimes(t, c, some)
			if c.count() <= 20000 {
				checkAllPlans(t, c)
			}
		}
	}
}

func TestEightThousands(t *testing.T) {
	slow := slices.Repeat([]int{1000}, 8)
	for _, c := range []struct {
		seats, time, count, trips int
		plan                      [][]int
	}{
		// Two go over and one comes back: by the pairs and people that there are each time.
		{2, 13000, 28 * 2 * 21 * 3 * 15 * 4 * 10 * 5 * 6 * 6 * 3 * 7, 13,
			[][]int{{0, 1}, {0}, {0, 2}, {0}, {0, 3}, {0}, {0, 4}, {0}, {0, 5}, {0}, {0, 6}, {0}, {0, 7}}},
		{3, 7000, 6988800, 7, [][]int{{0, 1}, {0}, {0, 2, 3}, {0}, {0, 4, 5}, {0}, {0, 6, 7}}},
	} {
		p := impl.Party{Times: slow, Seats: c.seats}
		if plan, ok := impl.FirstBest(p); !ok || !sameLists(plan, c.plan) {
			t.Error("plan", c, plan, ok)
		}
		if n, ok := impl.LeastTime(p); n != c.time || !ok {
			t.Error("least", c, n, ok)
		}
		if n, ok := impl.CountBest(p); n != c.count || !ok {
			t.Error("count", c, n, ok)
		}
		if n, ok := impl.FewestOfBest(p); n != c.trips || !ok {
			t.Error("fewest of best", c, n, ok)
		}
		if n, ok := impl.FewestTrips(p); n != c.trips || !ok {
			t.Error("fewest", c, n, ok)
		}
		if n, ok := impl.ReachedIn(p, impl.MaxWait); n != 510 || !ok {
			t.Error("reached", c, n, ok)
		}
	}
}

func TestOnePersonAlone(t *testing.T) {
	for _, text := range []string{"1:7", "2:7", "3:7"} {
		p := party(t, text)
		checkSearch(t, p)
		if n, ok := impl.LeastTime(p); n != 7 || !ok {
			t.Error("least", n, ok)
		}
		if plan, ok := impl.FirstBest(p); !ok || !sameLists(plan, [][]int{{0}}) {
			t.Error("plan", plan, ok)
		}
		if n, ok := impl.CountBest(p); n != 1 || !ok {
			t.Error("count", n, ok)
		}
		for wait, want := range map[int]int{0: 1, 6: 1, 7: 2, impl.MaxWait: 2} {
			if n, ok := impl.ReachedIn(p, wait); n != want || !ok {
				t.Error("reached in", wait, n, ok)
			}
		}
		if states, time, ok := impl.FarthestStates(p); !ok || time != 7 || len(states) != 1 || textOf(states[0]) != "x>" {
			t.Error("farthest", states, time, ok)
		}
		if n, ok := impl.CostOf(p, 0); n != 0 || ok {
			t.Error("cost", n, ok)
		}
		if times, ok := impl.TimesBySeats(p); !ok || !slices.Equal(times, []int{7, 7, 7}) {
			t.Error("by seats", times, ok)
		}
	}
}

func TestFirstAndLastStateAreAskedAbout(t *testing.T) {
	for _, p := range allParties() {
		first, _ := impl.FirstState(p)
		last, _ := impl.LastState(p)
		least, has := impl.LeastTime(p)
		if n, ok := impl.TimeTo(p, first); n != 0 || !ok {
			t.Error("to the first state", p, n, ok)
		}
		if n, ok := impl.TimeFrom(p, last); n != 0 || !ok {
			t.Error("from the last state", p, n, ok)
		}
		if n, ok := impl.TimeTo(p, last); n != least || ok != has {
			t.Error("to the last state", p, n, ok)
		}
		if n, ok := impl.TimeFrom(p, first); n != least || ok != has {
			t.Error("from the first state", p, n, ok)
		}
		for _, s := range []impl.State{first, last} {
			if on, ok := impl.IsOnBest(p, s); on != has || ok != has {
				t.Error("on a best plan", p, s, on, ok)
			}
		}
	}
}

// More people with one seat: one can only go over and come back.
func TestOneSeatForMore(t *testing.T) {
	p := party(t, "1:2,4,9")
	for _, s := range allStates(3) {
		text := textOf(s)
		want := map[string]int{"...<": 0, "x..>": 2, ".x.>": 4, "..x>": 9}
		if n, ok := impl.TimeTo(p, s); n != want[text] || ok != (n > 0 || text == "...<") {
			t.Error("to", text, n, ok)
		}
		want = map[string]int{"xxx>": 0, ".xx<": 2, "x.x<": 4, "xx.<": 9}
		if n, ok := impl.TimeFrom(p, s); n != want[text] || ok != (n > 0 || text == "xxx>") {
			t.Error("from", text, n, ok)
		}
		if on, ok := impl.IsOnBest(p, s); on || ok {
			t.Error("on a best plan", text, on, ok)
		}
	}
	for wait, want := range map[int]int{0: 1, 1: 1, 2: 2, 3: 2, 4: 3, 8: 3, 9: 4, impl.MaxWait: 4} {
		if n, ok := impl.ReachedIn(p, wait); n != want || !ok {
			t.Error("reached in", wait, n, ok)
		}
	}
	if n, ok := impl.CountBest(p); n != 0 || !ok {
		t.Error("count", n, ok)
	}
	if times, ok := impl.TimesBySeats(p); !ok || !slices.Equal(times, []int{-1, 15, 9}) {
		t.Error("by seats", times, ok)
	}
	for _, r := range callSearch(p, stateOf("x..>"), 1) {
		if slices.Contains([]string{"LeastTime", "FirstBest", "BestFirstTrips", "FewestTrips", "FewestOfBest", "IsOnBest", "CountOnBest", "CostOf", "FarthestStates"}, r.name) {
			checkFails(t, "one seat", r)
		}
	}
	// The party without the other person has a plan, but the whole one has none.
	if n, ok := impl.CostOf(party(t, "1:3,8"), 0); n != 0 || ok {
		t.Error("cost", n, ok)
	}
}

// Two seats are told of by the formula of chapter 2 as well.
func TestSearchAndFormulaAgree(t *testing.T) {
	for people := 1; people <= impl.MaxPeople; people++ {
		for _, most := range []int{2, 9, impl.MaxTime} {
			for _, times := range someTimes(people, most, 30/people) {
				least, ok := impl.LeastTime(impl.Party{Times: times, Seats: 2})
				if pair, fine := impl.PairTime(times); !ok || !fine || least != pair {
					t.Errorf("LeastTime with two seats and PairTime of %v are %v, %v and %v, %v", times, least, ok, pair, fine)
				}
			}
		}
	}
}

func TestCostOf(t *testing.T) {
	for _, c := range []struct {
		party string
		k     int
		want  int
	}{
		{"2:1,2,5,10", 3, 9}, {"2:1,10,10,10,10", 0, -7}, {"2:3,8", 0, 0}, {"2:3,8", 1, 5}, {"3:4,4,4", 2, 0}, {"2:4,4,4", 2, 8},
	} {
		if n, ok := impl.CostOf(party(t, c.party), c.k); n != c.want || !ok {
			t.Error(c, n, ok)
		}
	}
	for _, k := range []int{-1, 4, 5, 8, math.MinInt, math.MaxInt} {
		if n, ok := impl.CostOf(party(t, "2:1,2,5,10"), k); n != 0 || ok {
			t.Error("the cost of", k, n, ok)
		}
	}
}

func TestLimitsOfReachedIn(t *testing.T) {
	p := party(t, "2:1,2,5,10")
	for wait, want := range map[int]int{0: 1, 1: 2, 2: 4, 3: 5, impl.MaxWait: 30} {
		if n, ok := impl.ReachedIn(p, wait); n != want || !ok {
			t.Error("reached in", wait, n, ok)
		}
	}
	for _, wait := range []int{-1, impl.MaxWait + 1, math.MinInt, math.MaxInt} {
		if n, ok := impl.ReachedIn(p, wait); n != 0 || ok {
			t.Error("reached in", wait, n, ok)
		}
	}
}

func TestFarthestStatesAreInOrder(t *testing.T) {
	for _, c := range []struct {
		party string
		want  []string
		time  int
	}{
		{"2:1,1", []string{".x<", "x.<"}, 2},
		{"2:2,2,2", []string{".xx<", "x.x<", "xx.<"}, 8},
		{"3:5,5,5", []string{"..x<", ".x.<", ".xx<", "x..<", "x.x<", "xx.<"}, 10},
	} {
		states, time, ok := impl.FarthestStates(party(t, c.party))
		var texts []string
		for _, s := range states {
			texts = append(texts, textOf(s))
		}
		if !ok || time != c.time || !slices.Equal(texts, c.want) {
			t.Errorf("FarthestStates(%s) = %v, %v, %v", c.party, texts, time, ok)
		}
	}
}

// With three seats best plans may have more trips than others, or not all as many.
func TestTripsOfBestPlans(t *testing.T) {
	for _, c := range []struct {
		party                        string
		least, count, fewest, ofBest int
	}{
		{"3:1,1,4,4,4", 8, 2, 3, 5},
		{"3:4,1,4,1,4", 8, 2, 3, 5},
		{"3:1,1,3,3,3", 7, 14, 3, 3},
		{"3:1,1,4,4,4,4,4", 13, 160, 5, 7},
	} {
		p := party(t, c.party)
		checkSearch(t, p)
		if n, ok := impl.LeastTime(p); n != c.least || !ok {
			t.Error("least", c, n, ok)
		}
		if n, ok := impl.CountBest(p); n != c.count || !ok {
			t.Error("count", c, n, ok)
		}
		if n, ok := impl.FewestTrips(p); n != c.fewest || !ok {
			t.Error("fewest", c, n, ok)
		}
		if n, ok := impl.FewestOfBest(p); n != c.ofBest || !ok {
			t.Error("fewest of best", c, n, ok)
		}
	}
}
