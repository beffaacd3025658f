package tests

import (
	"math"
	"slices"
	"strings"
	"testing"

	"loop.example/g01272/impl"
)

func party(t *testing.T, s string) impl.Party {
	t.Helper()
	p, ok := impl.ParseParty(s)
	if !ok {
		t.Fatalf("ParseParty(%q) fails", s)
	}
	return p
}

// stateOf reads a StateText without the package's help.
func stateOf(text string) impl.State {
	s := impl.State{Torch: strings.HasSuffix(text, ">")}
	for _, c := range text[:len(text)-1] {
		s.Over = append(s.Over, c == 'x')
	}
	return s
}

// textOf writes a StateText without the package's help.
func textOf(s impl.State) string {
	text := ""
	for _, over := range s.Over {
		if over {
			text += "x"
		} else {
			text += "."
		}
	}
	if s.Torch {
		return text + ">"
	}
	return text + "<"
}

func sameLists(a, b [][]int) bool { return slices.EqualFunc(a, b, slices.Equal[[]int]) }

func sameParty(a, b impl.Party) bool { return a.Seats == b.Seats && slices.Equal(a.Times, b.Times) }

func sameState(a, b impl.State) bool { return a.Torch == b.Torch && slices.Equal(a.Over, b.Over) }

func isZeroState(s impl.State) bool { return len(s.Over) == 0 && !s.Torch }

func isZeroParty(p impl.Party) bool { return len(p.Times) == 0 && p.Seats == 0 }

var examplePlan = [][]int{{0, 1}, {0}, {2, 3}, {1}, {0, 1}}

// shuttle is a plan for one person of so many trips, an odd number.
func shuttle(trips int) [][]int {
	var list [][]int
	for range trips {
		list = append(list, []int{0})
	}
	return list
}

// longPlan is a plan for three people with two seats: so many trips, an odd number of at least 3.
func longPlan(trips int) [][]int {
	list := [][]int{{0, 1}, {0}}
	for len(list)+3 <= trips {
		list = append(list, []int{0}, []int{0})
	}
	return append(list, []int{0, 2})
}

func TestExampleOfChapter1(t *testing.T) {
	p := party(t, "2:1,2,5,10")
	if !sameParty(p, impl.Party{Times: []int{1, 2, 5, 10}, Seats: 2}) {
		t.Error("party", p)
	}
	if n, ok := impl.PlanTime(p, examplePlan); n != 17 || !ok {
		t.Error("time", n, ok)
	}
	if is, ok := impl.IsPlan(p, examplePlan); !is || !ok {
		t.Error("plan", is, ok)
	}
	first, ok := impl.FirstState(p)
	if !ok || textOf(first) != "....<" {
		t.Error("first", first, ok)
	}
	behind, ok := impl.PlayTrips(p, first, examplePlan[:2])
	if text, fine := impl.StateText(p, behind); !ok || !fine || text != ".x..<" {
		t.Error("text", text, ok, fine)
	}
	want := [][]int{{0}, {0, 1}, {0, 2}, {0, 3}, {1}, {1, 2}, {1, 3}, {2}, {2, 3}, {3}}
	if trips, ok := impl.TripsOf(p, first); !ok || len(trips) != 10 || !sameLists(trips, want) {
		t.Error("trips", trips, ok)
	}
	if walked, ok := impl.TimesWalked(p, examplePlan); !ok || !slices.Equal(walked, []int{3, 3, 1, 1}) {
		t.Error("walked", walked, ok)
	}
}

func TestIsParty(t *testing.T) {
	eight := []int{1, 1000, 1, 1000, 2, 3, 4, 5}
	for _, c := range []struct {
		p    impl.Party
		want bool
	}{
		{impl.Party{Times: []int{1}, Seats: 1}, true},
		{impl.Party{Times: []int{1000}, Seats: 3}, true},
		{impl.Party{Times: eight, Seats: 3}, true},
		{impl.Party{Times: eight, Seats: 1}, true},
		{impl.Party{}, false},
		{impl.Party{Seats: 2}, false},
		{impl.Party{Times: []int{}, Seats: 2}, false},
		{impl.Party{Times: []int{1, 2}}, false},
		{impl.Party{Times: []int{1, 2}, Seats: 4}, false},
		{impl.Party{Times: []int{1, 2}, Seats: -1}, false},
		{impl.Party{Times: []int{1, 2}, Seats: math.MinInt}, false},
		{impl.Party{Times: []int{1, 2}, Seats: math.MaxInt}, false},
		{impl.Party{Times: []int{1, 0}, Seats: 2}, false},
		{impl.Party{Times: []int{0, 1}, Seats: 2}, false},
		{impl.Party{Times: []int{-1}, Seats: 2}, false},
		{impl.Party{Times: []int{1, 1001}, Seats: 2}, false},
		{impl.Party{Times: []int{1001, 1}, Seats: 2}, false},
		{impl.Party{Times: []int{math.MaxInt, math.MinInt}, Seats: 2}, false},
		{impl.Party{Times: append(slices.Clone(eight), 1), Seats: 3}, false},
	} {
		if got := impl.IsParty(c.p); got != c.want {
			t.Errorf("IsParty(%v) = %v", c.p, got)
		}
	}
}

func TestIsState(t *testing.T) {
	p := party(t, "2:3,1,2")
	for _, c := range []struct {
		s    impl.State
		want bool
	}{
		{stateOf("...<"), true},
		{stateOf("xxx>"), true},
		{stateOf("..x<"), true},
		{stateOf("..x>"), true},
		{stateOf("xx.<"), true},
		{stateOf("x..>"), true},
		{stateOf("...>"), false},
		{stateOf("xxx<"), false},
		{impl.State{}, false},
		{impl.State{Torch: true}, false},
		{stateOf("..<"), false},
		{stateOf("xx>"), false},
		{stateOf("....<"), false},
		{stateOf("xxxx>"), false},
		{stateOf(".........<"), false},
		{impl.State{Over: make([]bool, 1000)}, false},
	} {
		if is, ok := impl.IsState(p, c.s); is != c.want || !ok {
			t.Errorf("IsState(%v) = %v, %v", c.s, is, ok)
		}
	}
	for _, p := range badParties() {
		if is, ok := impl.IsState(p, stateOf("...<")); is || ok {
			t.Errorf("IsState of the party %v = %v, %v", p, is, ok)
		}
	}
}

func TestFirstAndLastState(t *testing.T) {
	for _, c := range []struct{ party, first, last string }{
		{"1:7", ".<", "x>"},
		{"2:1,2,3", "...<", "xxx>"},
		{"3:1,2,3,4,5,6,7,8", "........<", "xxxxxxxx>"},
	} {
		p := party(t, c.party)
		if s, ok := impl.FirstState(p); !ok || textOf(s) != c.first {
			t.Error("first of", c.party, s, ok)
		}
		if s, ok := impl.LastState(p); !ok || textOf(s) != c.last {
			t.Error("last of", c.party, s, ok)
		}
	}
}

func TestCanCross(t *testing.T) {
	p := party(t, "2:1,2,5,10")
	for _, c := range []struct {
		state string
		trip  []int
		want  bool
	}{
		{"....<", []int{0}, true},
		{"....<", []int{3}, true},
		{"....<", []int{1, 3}, true},
		{"xx..>", []int{0, 1}, true},
		{".x..<", []int{0, 3}, true},
		{"....<", nil, false},
		{"....<", []int{}, false},
		{"....<", []int{4}, false},
		{"....<", []int{-1}, false},
		{"....<", []int{0, 4}, false},
		{"....<", []int{-1, 0}, false},
		{"....<", []int{math.MinInt, math.MaxInt}, false},
		{"....<", []int{0, 0}, false},
		{"....<", []int{1, 0}, false},
		{"....<", []int{0, 1, 2}, false},
		{"....<", []int{0, 1, 2, 3, 4, 5, 6, 7, 8, 9}, false},
		{".x..<", []int{1}, false},
		{".x..<", []int{0, 1}, false},
		{".x..>", []int{0}, false},
		{".x..>", []int{1, 2}, false},
	} {
		if can, ok := impl.CanCross(p, stateOf(c.state), c.trip); can != c.want || !ok {
			t.Errorf("CanCross(%s, %v) = %v, %v", c.state, c.trip, can, ok)
		}
		if s, ok := impl.CrossBridge(p, stateOf(c.state), c.trip); ok != c.want || !ok && !isZeroState(s) {
			t.Errorf("CrossBridge(%s, %v) = %v, %v", c.state, c.trip, s, ok)
		}
	}
	for _, s := range badStates() {
		if can, ok := impl.CanCross(p, s, []int{0}); can || ok {
			t.Errorf("CanCross in %v = %v, %v", s, can, ok)
		}
	}
}

func TestCrossBridge(t *testing.T) {
	p := party(t, "3:1,2,5,10")
	for _, c := range []struct {
		from string
		trip []int
		to   string
	}{
		{"....<", []int{0, 1}, "xx..>"},
		{"xx..>", []int{0}, ".x..<"},
		{".x..<", []int{0, 2, 3}, "xxxx>"},
		{"xxxx>", []int{1, 2, 3}, "x...<"},
	} {
		if s, ok := impl.CrossBridge(p, stateOf(c.from), c.trip); !ok || textOf(s) != c.to {
			t.Errorf("CrossBridge(%s, %v) = %v, %v", c.from, c.trip, s, ok)
		}
	}
}

func TestTripTime(t *testing.T) {
	p := party(t, "2:5,1,1000,2")
	for _, c := range []struct {
		trip []int
		want int
	}{
		{[]int{0}, 5}, {[]int{1}, 1}, {[]int{0, 1}, 5}, {[]int{1, 3}, 2}, {[]int{2, 3}, 1000},
		{nil, 0}, {[]int{4}, 0}, {[]int{-1}, 0}, {[]int{1, 1}, 0}, {[]int{3, 1}, 0}, {[]int{0, 1, 2}, 0}, {[]int{3, 4}, 0},
	} {
		if n, ok := impl.TripTime(p, c.trip); n != c.want || ok != (c.want > 0) {
			t.Errorf("TripTime(%v) = %v, %v", c.trip, n, ok)
		}
	}
}

// allParties are small parties with all numbers of people and seats, and one of the greatest ones.
func allParties() []impl.Party {
	var list []impl.Party
	for people := 1; people <= 5; people++ {
		for seats := 1; seats <= impl.MaxSeats; seats++ {
			list = append(list, impl.Party{Times: []int{4, 1, 9, 4, 2}[:people:people], Seats: seats})
		}
	}
	return append(list, impl.Party{Times: []int{1000, 7, 1, 1, 3, 999, 2, 8}, Seats: 3})
}

// allStates are all states of so many people.
func allStates(people int) []impl.State {
	var list []impl.State
	for set := range 1 << people {
		for _, torch := range []bool{false, true} {
			s := impl.State{Over: make([]bool, people), Torch: torch}
			for k := range people {
				s.Over[k] = set>>k&1 == 1
			}
			if slices.Contains(s.Over, torch) {
				list = append(list, s)
			}
		}
	}
	return list
}

// tripsBySets are the trips found by going through all sets of people.
func tripsBySets(p impl.Party, s impl.State) [][]int {
	var list [][]int
	for set := 1; set < 1<<len(p.Times); set++ {
		var trip []int
		for k := range p.Times {
			if set>>k&1 == 1 {
				trip = append(trip, k)
			}
		}
		here := func(k int) bool { return s.Over[k] == s.Torch }
		if len(trip) <= p.Seats && !slices.ContainsFunc(trip, func(k int) bool { return !here(k) }) {
			list = append(list, trip)
		}
	}
	slices.SortFunc(list, slices.Compare[[]int])
	return list
}

func TestTripsOfAllStates(t *testing.T) {
	for _, p := range allParties() {
		for _, s := range allStates(len(p.Times)) {
			trips, ok := impl.TripsOf(p, s)
			if want := tripsBySets(p, s); !ok || !sameLists(trips, want) {
				t.Fatalf("TripsOf(%v, %v) = %v, %v, want %v", p, s, trips, ok, want)
			}
			for _, trip := range trips {
				if can, ok := impl.CanCross(p, s, trip); !can || !ok {
					t.Fatalf("CanCross(%v, %v, %v) = %v, %v", p, s, trip, can, ok)
				}
			}
		}
	}
}

// Promise 1: trips are taken back by themselves.
func TestTripsAreTakenBack(t *testing.T) {
	for _, p := range allParties() {
		for _, s := range allStates(len(p.Times)) {
			for _, trip := range tripsBySets(p, s) {
				there, ok := impl.CrossBridge(p, s, trip)
				if is, fine := impl.IsState(p, there); !ok || !is || !fine {
					t.Fatalf("%v behind %v in %v is no state of %v", there, trip, s, p)
				}
				for k, over := range there.Over {
					if over != (s.Over[k] != slices.Contains(trip, k)) {
						t.Fatalf("%v behind %v in %v: person %d", there, trip, s, k)
					}
				}
				if there.Torch == s.Torch {
					t.Fatalf("the torch stays with %v in %v", trip, s)
				}
				if back, ok := impl.CrossBridge(p, there, trip); !ok || !sameState(back, s) {
					t.Fatalf("%v taken back from %v leads to %v, %v, not to %v", trip, there, back, ok, s)
				}
			}
		}
	}
}

// plansOf are all plans of at most so many trips, found by trying all trips.
func plansOf(p impl.Party, trips int) [][][]int {
	var plans [][][]int
	var try func(s impl.State, gone [][]int)
	try = func(s impl.State, gone [][]int) {
		if s.Torch && !slices.Contains(s.Over, false) {
			plans = append(plans, slices.Clone(gone))
		}
		if len(gone) == trips {
			return
		}
		for _, trip := range tripsBySets(p, s) {
			there := impl.State{Over: slices.Clone(s.Over), Torch: !s.Torch}
			for _, k := range trip {
				there.Over[k] = !there.Over[k]
			}
			try(there, append(slices.Clone(gone), trip))
		}
	}
	try(impl.State{Over: make([]bool, len(p.Times))}, nil)
	return plans
}

// checkPlan checks all that chapter 1 tells of a plan, and promise 1 for it: that it is one backwards as well.
func checkPlan(t *testing.T, p impl.Party, plan [][]int) {
	t.Helper()
	time, walked := 0, make([]int, len(p.Times))
	for _, trip := range plan {
		most := 0
		for _, k := range trip {
			walked[k]++
			most = max(most, p.Times[k])
		}
		time += most
	}
	if is, ok := impl.IsPlan(p, plan); !is || !ok {
		t.Fatalf("IsPlan(%v, %v) = %v, %v", p, plan, is, ok)
	}
	if n, ok := impl.PlanTime(p, plan); !ok || n != time {
		t.Fatalf("PlanTime(%v, %v) = %v, %v, want %v", p, plan, n, ok, time)
	}
	if l, ok := impl.TimesWalked(p, plan); !ok || !slices.Equal(l, walked) {
		t.Fatalf("TimesWalked(%v, %v) = %v, %v, want %v", p, plan, l, ok, walked)
	}
	first, _ := impl.FirstState(p)
	last, _ := impl.LastState(p)
	if s, ok := impl.PlayTrips(p, first, plan); !ok || !sameState(s, last) {
		t.Fatalf("PlayTrips(%v, %v) = %v, %v", p, plan, s, ok)
	}
	turned := slices.Clone(plan)
	slices.Reverse(turned)
	back, ok := impl.BackPlan(p, plan)
	if !ok || !sameLists(back, turned) {
		t.Fatalf("BackPlan(%v, %v) = %v, %v", p, plan, back, ok)
	}
	if is, ok := impl.IsPlan(p, back); !is || !ok {
		t.Fatalf("%v, the other way round, is no plan of %v", back, p)
	}
	if n, ok := impl.PlanTime(p, back); !ok || n != time {
		t.Fatalf("%v, the other way round, needs %v, %v, not %v", back, n, ok, time)
	}
}

// Promise 1: plans lead over backwards as well.
func TestPlansAreTakenBackwards(t *testing.T) {
	for _, c := range []struct {
		party string
		trips int
		plans int
	}{
		{"1:5", 5, 3},
		{"3:5", 4, 2},
		{"2:5,3", 3, 6},
		{"1:5,3", 7, 0},
		{"1:1,2,3", 5, 0},
		{"2:4,1,9", 3, 6},
		{"3:4,1,9", 3, 20},
		{"2:1,2,5,10", 5, 108},
		{"3:1,2,5,10", 3, 36},
	} {
		p := party(t, c.party)
		plans := plansOf(p, c.trips)
		if len(plans) != c.plans {
			t.Errorf("%s has %d plans of at most %d trips, not %d", c.party, len(plans), c.trips, c.plans)
		}
		for _, plan := range plans {
			checkPlan(t, p, plan)
		}
	}
	checkPlan(t, party(t, "3:1000,7,1,1,3,999,2,8"), [][]int{{0, 1, 2}, {2}, {3, 4, 5}, {3}, {2, 3, 6}, {2, 3}, {2, 3, 7}})
}

// checkNoPlan checks that all functions that require a plan of a party refuse the lists.
func checkNoPlan(t *testing.T, p impl.Party, lists [][]int) {
	t.Helper()
	if is, ok := impl.IsPlan(p, lists); is || !ok {
		t.Errorf("IsPlan(%v, %v) = %v, %v", p, lists, is, ok)
	}
	if n, ok := impl.PlanTime(p, lists); n != 0 || ok {
		t.Errorf("PlanTime(%v, %v) = %v, %v", p, lists, n, ok)
	}
	if back, ok := impl.BackPlan(p, lists); len(back) != 0 || ok {
		t.Errorf("BackPlan(%v, %v) = %v, %v", p, lists, back, ok)
	}
	if l, ok := impl.TimesWalked(p, lists); len(l) != 0 || ok {
		t.Errorf("TimesWalked(%v, %v) = %v, %v", p, lists, l, ok)
	}
}

func TestListsThatAreNoPlan(t *testing.T) {
	p := party(t, "2:1,2,5,10")
	for _, lists := range [][][]int{
		nil,
		{},
		{nil},
		{{}},
		examplePlan[:4],
		examplePlan[1:],
		append(slices.Clone(examplePlan), []int{0}),
		append(slices.Clone(examplePlan), nil),
		{{0, 1}, {0}, {2, 3}, {1}, {1, 0}},
		{{0, 1}, {0}, {2, 3}, {1}, {0, 4}},
		{{0, 1}, {0}, {2, 3}, {0}, {0, 1}},
		{{0, 1, 2}, {0}, {0, 3}},
		{{0, 1, 2, 3}},
		{{-1}, {math.MaxInt}, {math.MinInt}},
	} {
		checkNoPlan(t, p, lists)
	}
	// With one seat more than one person never come over: each trip back takes the one person who came.
	checkNoPlan(t, party(t, "1:1,2"), [][]int{{0}, {0}, {1}})
	checkNoPlan(t, party(t, "1:1,2"), [][]int{{0}, {1}})
	checkNoPlan(t, party(t, "1:1,2"), [][]int{{0, 1}})
	checkNoPlan(t, party(t, "1:1"), [][]int{{0}, {0}})
}

func TestPartyOfOne(t *testing.T) {
	for _, text := range []string{"1:7", "2:7", "3:7"} {
		p := party(t, text)
		first, _ := impl.FirstState(p)
		if trips, ok := impl.TripsOf(p, first); !ok || !sameLists(trips, [][]int{{0}}) {
			t.Error(text, "trips", trips, ok)
		}
		checkPlan(t, p, shuttle(1))
		checkPlan(t, p, shuttle(3))
		if n, ok := impl.PlanTime(p, shuttle(3)); n != 21 || !ok {
			t.Error(text, "time", n, ok)
		}
		if q, ok := impl.DropPerson(p, 0); ok || !isZeroParty(q) {
			t.Error(text, "dropped", q, ok)
		}
	}
}

func TestFortyTripsAndOneMore(t *testing.T) {
	p := party(t, "2:1,2,3")
	checkPlan(t, p, longPlan(3))
	checkPlan(t, p, longPlan(39))
	checkNoPlan(t, p, longPlan(41))
	checkPlan(t, party(t, "1:1000"), shuttle(39))
	checkNoPlan(t, party(t, "1:1000"), shuttle(40))
	checkNoPlan(t, party(t, "1:1000"), shuttle(41))
	checkNoPlan(t, party(t, "1:1000"), shuttle(1001))

	one := party(t, "1:7")
	first, _ := impl.FirstState(one)
	if s, ok := impl.PlayTrips(one, first, shuttle(40)); !ok || !sameState(s, first) {
		t.Error("40 trips", s, ok)
	}
	if s, ok := impl.PlayTrips(one, first, shuttle(41)); ok || !isZeroState(s) {
		t.Error("41 trips", s, ok)
	}
	failing := append(shuttle(39), []int{1})
	if i, ok := impl.TripThatFails(one, first, failing); i != 39 || !ok {
		t.Error("the last one of 40", i, ok)
	}
	if i, ok := impl.TripThatFails(one, first, append(failing, []int{0})); i != 0 || ok {
		t.Error("41 lists", i, ok)
	}
	if i, ok := impl.TripThatFails(one, first, append([][]int{{0}, {1}}, shuttle(39)...)); i != 0 || ok {
		t.Error("41 lists, the second one of which fails", i, ok)
	}
	if i, ok := impl.TripThatFails(one, first, shuttle(40)); i != 0 || ok {
		t.Error("40 trips none of which fails", i, ok)
	}
}

func TestPlayTripsAndTripThatFails(t *testing.T) {
	p := party(t, "2:1,2,5,10")
	for _, c := range []struct {
		from  string
		lists [][]int
		to    string
		fails int
	}{
		{"....<", nil, "....<", -1},
		{".x..<", [][]int{}, ".x..<", -1},
		{"....<", examplePlan, "xxxx>", -1},
		{".x..<", examplePlan[2:], "xxxx>", -1},
		{"xxxx>", examplePlan, "....<", -1},
		{"....<", [][]int{nil}, "", 0},
		{"....<", [][]int{{0, 1}, {}, {7}}, "", 1},
		{"....<", [][]int{{0, 1}, {0}, {0, 2}, {3}, {1}}, "", 3},
		{"....<", [][]int{{0, 1}, {0}, {2, 3}, {1}, {-5, 700}}, "", 4},
		{".x..<", [][]int{{1}}, "", 0},
	} {
		s, ok := impl.PlayTrips(p, stateOf(c.from), c.lists)
		i, failing := impl.TripThatFails(p, stateOf(c.from), c.lists)
		if c.fails < 0 && (!ok || textOf(s) != c.to || failing || i != 0) {
			t.Errorf("%s, %v: %v, %v and %v, %v", c.from, c.lists, s, ok, i, failing)
		}
		if c.fails >= 0 && (ok || !isZeroState(s) || !failing || i != c.fails) {
			t.Errorf("%s, %v: %v, %v and %v, %v", c.from, c.lists, s, ok, i, failing)
		}
	}
}

func TestSortParty(t *testing.T) {
	for _, c := range [][2]string{
		{"2:10,5,1,2", "2:1,2,5,10"},
		{"3:4,4,1,4", "3:1,4,4,4"},
		{"1:9", "1:9"},
		{"2:8,7,6,5,4,3,2,1000", "2:2,3,4,5,6,7,8,1000"},
	} {
		if q, ok := impl.SortParty(party(t, c[0])); !ok || !sameParty(q, party(t, c[1])) {
			t.Error(c, q, ok)
		}
	}
}

func TestDropPerson(t *testing.T) {
	p := party(t, "2:1,2,5,10")
	for k, want := range []string{"2:2,5,10", "2:1,5,10", "2:1,2,10", "2:1,2,5"} {
		if q, ok := impl.DropPerson(p, k); !ok || !sameParty(q, party(t, want)) {
			t.Error(k, q, ok)
		}
	}
	for _, k := range []int{-1, 4, math.MinInt, math.MaxInt} {
		if q, ok := impl.DropPerson(p, k); ok || !isZeroParty(q) {
			t.Error(k, q, ok)
		}
	}
	if q, ok := impl.DropPerson(party(t, "1:3,8"), 0); !ok || !sameParty(q, party(t, "1:8")) {
		t.Error("two people", q, ok)
	}
}

func TestSlowParty(t *testing.T) {
	for _, c := range []struct {
		party string
		times int
		want  string
	}{
		{"2:1,2,5,10", 1, "2:1,2,5,10"},
		{"2:1,2,5,10", 3, "2:3,6,15,30"},
		{"2:1,2,5,10", 100, "2:100,200,500,1000"},
		{"1:1", 1000, "1:1000"},
		{"3:333,1", 3, "3:999,3"},
	} {
		if q, ok := impl.SlowParty(party(t, c.party), c.times); !ok || !sameParty(q, party(t, c.want)) {
			t.Error(c, q, ok)
		}
	}
	for _, c := range []struct {
		party string
		times int
	}{
		{"2:1,2,5,10", 101}, {"2:10,5,2,1", 101}, {"1:1", 1001}, {"1:334", 3}, {"1:1", 0}, {"1:1", -1}, {"1:1", math.MaxInt},
		{"1:1", math.MinInt}, {"1:2", 1 << 63 / 2}, {"1:4", 1 << 62}, {"1:16", 1<<60 + 1},
	} {
		if q, ok := impl.SlowParty(party(t, c.party), c.times); ok || !isZeroParty(q) {
			t.Error(c, q, ok)
		}
	}
}

func TestStateText(t *testing.T) {
	for _, p := range allParties() {
		for _, s := range allStates(len(p.Times)) {
			if text, ok := impl.StateText(p, s); !ok || text != textOf(s) {
				t.Errorf("StateText(%v, %v) = %q, %v", p, s, text, ok)
			}
		}
	}
}

func TestPartyTexts(t *testing.T) {
	for _, c := range []struct {
		text string
		p    impl.Party
	}{
		{"2:1,2,5,10", impl.Party{Times: []int{1, 2, 5, 10}, Seats: 2}},
		{"1:7", impl.Party{Times: []int{7}, Seats: 1}},
		{"3:1000,1,1000,1,1,1,1,1", impl.Party{Times: []int{1000, 1, 1000, 1, 1, 1, 1, 1}, Seats: 3}},
	} {
		if text, ok := impl.PartyText(c.p); !ok || text != c.text {
			t.Errorf("PartyText(%v) = %q, %v", c.p, text, ok)
		}
		if p, ok := impl.ParseParty(c.text); !ok || !sameParty(p, c.p) {
			t.Errorf("ParseParty(%q) = %v, %v", c.text, p, ok)
		}
	}
	for _, text := range []string{
		"", ":", "2", "2:", ":1", "2:1,", "2:,1", "2:1,,2", "2:1;2", "2,1:2", "2:1:2", "2::1", "0:1", "4:1", "-1:1", "+2:1", "02:1",
		"2:01", "2:0", "2:+1", "2:-1", "2:1001", "2:1, 2", " 2:1", "2:1 ", "2:1\n", "2 :1", "2:1.0", "2:1e1", "2:0x1", "2:1_0", "2:x",
		"2:1,1,1,1,1,1,1,1,1", "2:1,1,1,1,1,1,1,1,", "2:9223372036854775808", "2:18446744073709551617", "2:1\x00", "\xff:1", "2:１",
		"2:" + strings.Repeat("0", 5000) + "1", "2:" + strings.Repeat("1,", 5000), strings.Repeat(":", 5000),
	} {
		if p, ok := impl.ParseParty(text); ok || !isZeroParty(p) {
			t.Errorf("ParseParty(%q) = %v, %v", text, p, ok)
		}
	}
}

// checkText checks that something has a text, and is parsed from it again.
func checkText[T any](t *testing.T, x T, want string, tell func(T) (string, bool), parse func(string) (T, bool), same func(T, T) bool) {
	t.Helper()
	if text, ok := tell(x); !ok || text != want {
		t.Fatalf("the text of %v is %q, %v, not %q", x, text, ok, want)
	}
	if again, ok := parse(want); !ok || !same(again, x) {
		t.Fatalf("%q is parsed to %v, %v, not to %v", want, again, ok, x)
	}
}

// textsNextTo are the texts with a byte more, another one or one less.
func textsNextTo(text string) []string {
	var texts []string
	for i := range len(text) + 1 {
		behind := text[min(i+1, len(text)):]
		texts = append(texts, text[:i]+behind)
		for c := range 256 {
			letter := string([]byte{byte(c)})
			texts = append(texts, text[:i]+letter+text[i:], text[:i]+letter+behind)
		}
	}
	return texts
}

// shortTexts are all texts of at most so many of some letters.
func shortTexts(letters []string, most int) []string {
	texts, longest := []string{""}, []string{""}
	for range most {
		var longer []string
		for _, text := range longest {
			for _, letter := range letters {
				longer = append(longer, text+letter)
			}
		}
		texts, longest = append(texts, longer...), longer
	}
	return texts
}

// Each text that is parsed is the text of what it is parsed to, in all short texts of some bytes.
func TestParsePartyOfAllShortTexts(t *testing.T) {
	parsed := 0
	for _, text := range shortTexts([]string{"0", "1", "3", "4", ":", ",", "-"}, 6) {
		p, ok := impl.ParseParty(text)
		if !ok {
			continue
		}
		parsed++
		if again, ok := impl.PartyText(p); !ok || again != text {
			t.Errorf("ParseParty(%q) = %v, whose text is %q, %v", text, p, again, ok)
		}
	}
	// Behind two numbers of seats come 3, 12 or 48 numbers of one, two or three digits, or 1000; or two numbers of one digit; or one of one digit and one of two.
	if want := 2 * (3 + 12 + 48 + 1 + 9 + 2*36); parsed != want {
		t.Errorf("%d texts are parsed, not %d", parsed, want)
	}
}
