package tests

import (
	"math"
	"slices"
	"strings"
	"testing"

	"loop.example/g01272/impl"
)

// byPace are all people in their order, found by looking for the next one again and again.
func byPace(times []int) []int {
	var order []int
	for len(order) < len(times) {
		next := -1
		for k := range times {
			if !slices.Contains(order, k) && (next < 0 || times[k] < times[next]) {
				next = k
			}
		}
		order = append(order, next)
	}
	return order
}

// round is a round with the times of a, b, y and z.
type round struct{ a, b, y, z int }

func (r round) fetchTime() int { return r.b + r.a + r.z + r.b }

func (r round) escortTime() int { return r.z + r.a + r.y + r.a }

// roundsOf are the rounds of times, and the time of the trips behind them.
func roundsOf(times []int) ([]round, int) {
	sorted := slices.Clone(times)
	slices.Sort(sorted)
	var rounds []round
	left := len(sorted)
	for ; left > 3; left -= 2 {
		rounds = append(rounds, round{sorted[0], sorted[1], sorted[left-2], sorted[left-1]})
	}
	if left == 3 {
		return rounds, sorted[1] + sorted[0] + sorted[2]
	}
	return rounds, sorted[left-1]
}

// pairTime is PairTime by the better one of the two kinds of each round.
func pairTime(times []int) int {
	rounds, time := roundsOf(times)
	for _, r := range rounds {
		time += min(r.fetchTime(), r.escortTime())
	}
	return time
}

func escortTime(times []int) int {
	rounds, time := roundsOf(times)
	for _, r := range rounds {
		time += r.escortTime()
	}
	return time
}

// leastForTwo is the least time in which all can be over with two seats, found by going on from all states in the order of time.
func leastForTwo(times []int) int {
	people := len(times)
	end := 1<<people - 1
	gone := make([]bool, 2<<people)
	waiting := [][]int{{0}}
	for time := 0; time < len(waiting); time++ {
		for i := 0; i < len(waiting[time]); i++ {
			s := waiting[time][i]
			if gone[s] {
				continue
			}
			gone[s] = true
			over, torch := s>>1, s&1
			if over == end && torch == 1 {
				return time
			}
			for j := range people {
				for k := j; k < people; k++ {
					if over>>j&1 != torch || over>>k&1 != torch {
						continue
					}
					later := time + max(times[j], times[k])
					for len(waiting) <= later {
						waiting = append(waiting, nil)
					}
					waiting[later] = append(waiting[later], (over^(1<<j|1<<k))<<1|(1-torch))
				}
			}
		}
	}
	return -1
}

// playPairs plays lists as trips of two seats, for as many people as there are, and returns their time. It fails if they are no plan.
func playPairs(times []int, lists [][]int) (int, bool) {
	over := make([]bool, len(times))
	torch, time := false, 0
	for _, list := range lists {
		if len(list) < 1 || len(list) > 2 || len(list) == 2 && list[0] >= list[1] {
			return 0, false
		}
		most := 0
		for _, k := range list {
			if k < 0 || k >= len(times) || over[k] != torch {
				return 0, false
			}
			over[k] = !torch
			most = max(most, times[k])
		}
		torch = !torch
		time += most
	}
	return time, torch && !slices.Contains(over, false)
}

// checkPairPlan checks that lists are a plan of two at once with a time, by chapter 1 as well where it has so many people.
func checkPairPlan(t *testing.T, times []int, lists [][]int, want int) {
	t.Helper()
	if time, ok := playPairs(times, lists); !ok || time != want {
		t.Fatalf("%v: the plan %v has the time %v, %v, not %v", times, lists, time, ok, want)
	}
	if len(times) <= impl.MaxPeople {
		if time, ok := impl.PlanTime(impl.Party{Times: times, Seats: 2}, lists); !ok || time != want {
			t.Fatalf("PlanTime(%v, %v) = %v, %v, not %v", times, lists, time, ok, want)
		}
	}
	if trips, ok := impl.PairTrips(len(times)); !ok || trips != len(lists) {
		t.Fatalf("PairTrips(%d) = %v, %v, but there are %d", len(times), trips, ok, len(lists))
	}
}

// backOf are the people of every other trip of a plan, who have to be alone.
func backOf(t *testing.T, lists [][]int) []int {
	t.Helper()
	var back []int
	for i := 1; i < len(lists); i += 2 {
		if len(lists[i]) != 1 {
			t.Fatalf("not one person goes back in %v", lists)
		}
		back = append(back, lists[i][0])
	}
	return back
}

// checkPairs checks all that chapter 2 tells of times, but for the least time.
func checkPairs(t *testing.T, times []int) {
	t.Helper()
	time, ok := impl.PairTime(times)
	if want := pairTime(times); !ok || time != want {
		t.Fatalf("PairTime(%v) = %v, %v, want %v", times, time, ok, want)
	}
	plan, ok := impl.PairPlan(times)
	if !ok {
		t.Fatalf("PairPlan(%v) fails", times)
	}
	checkPairPlan(t, times, plan, time)
	escort, ok := impl.EscortTime(times)
	if want := escortTime(times); !ok || escort != want {
		t.Fatalf("EscortTime(%v) = %v, %v, want %v", times, escort, ok, want)
	}
	escortPlan, ok := impl.EscortPlan(times)
	if !ok {
		t.Fatalf("EscortPlan(%v) fails", times)
	}
	checkPairPlan(t, times, escortPlan, escort)
	if gain, ok := impl.PairGain(times); !ok || gain != escort-time {
		t.Fatalf("PairGain(%v) = %v, %v, want %v", times, gain, ok, escort-time)
	}
	if back, ok := impl.WhoComesBack(times); !ok || !slices.Equal(back, backOf(t, plan)) {
		t.Fatalf("WhoComesBack(%v) = %v, %v with the plan %v", times, back, ok, plan)
	}
	if order, ok := impl.RankOfPace(times); !ok || !slices.Equal(order, byPace(times)) {
		t.Fatalf("RankOfPace(%v) = %v, %v", times, order, ok)
	}
	checkRounds(t, times, plan, escortPlan)
}

// planOfRounds are the trips of rounds that are told by letters, and those behind them.
func planOfRounds(times []int, letters string) [][]int {
	order := byPace(times)
	var lists [][]int
	go2 := func(j, k int) { lists = append(lists, []int{min(j, k), max(j, k)}) }
	go1 := func(k int) { lists = append(lists, []int{k}) }
	left := len(order)
	for _, letter := range letters {
		a, b, y, z := order[0], order[1], order[left-2], order[left-1]
		if letter == 'f' {
			go2(a, b)
			go1(a)
			go2(y, z)
			go1(b)
		} else {
			go2(a, z)
			go1(a)
			go2(a, y)
			go1(a)
		}
		left -= 2
	}
	switch left {
	case 1:
		go1(order[0])
	case 2:
		go2(order[0], order[1])
	case 3:
		go2(order[0], order[1])
		go1(order[0])
		go2(order[0], order[2])
	}
	return lists
}

// checkRounds checks the kinds of the rounds, and that the plans are made of them.
func checkRounds(t *testing.T, times []int, plan, escortPlan [][]int) {
	t.Helper()
	rounds, _ := roundsOf(times)
	letters, even := "", false
	for _, r := range rounds {
		if r.fetchTime() < r.escortTime() {
			letters += "f"
		} else {
			letters += "e"
		}
		even = even || r.fetchTime() == r.escortTime()
	}
	if text, ok := impl.PairRounds(times); !ok || text != letters {
		t.Fatalf("PairRounds(%v) = %q, %v, want %q", times, text, ok, letters)
	}
	if n, ok := impl.CountFetches(times); !ok || n != strings.Count(letters, "f") {
		t.Fatalf("CountFetches(%v) = %v, %v with the rounds %q", times, n, ok, letters)
	}
	if has, ok := impl.HasEvenRound(times); !ok || has != even {
		t.Fatalf("HasEvenRound(%v) = %v, %v", times, has, ok)
	}
	if want := planOfRounds(times, letters); !sameLists(plan, want) {
		t.Fatalf("PairPlan(%v) = %v, want %v", times, plan, want)
	}
	if want := planOfRounds(times, strings.Repeat("e", len(letters))); !sameLists(escortPlan, want) {
		t.Fatalf("EscortPlan(%v) = %v, want %v", times, escortPlan, want)
	}
}

// checkLeast checks promise 2: no plan for two seats has less time.
func checkLeast(t *testing.T, times []int) {
	t.Helper()
	if time, ok := impl.PairTime(times); !ok || time != leastForTwo(times) {
		t.Fatalf("PairTime(%v) = %v, %v, but %v is the least", times, time, ok, leastForTwo(times))
	}
}

// checkPeople checks what times cost with a person more, or with a faster one.
func checkPeople(t *testing.T, times []int) {
	t.Helper()
	for _, time := range []int{1, 2, 5, 30, 1000} {
		want := pairTime(append(slices.Clone(times), time)) - pairTime(times)
		added, ok := impl.AddedTime(times, time)
		if len(times) < impl.MaxPaired && (!ok || added != want) || len(times) == impl.MaxPaired && (ok || added != 0) {
			t.Fatalf("AddedTime(%v, %d) = %v, %v, want %v", times, time, added, ok, want)
		}
	}
	for k := range times {
		changed := slices.Clone(times)
		changed[k] = 1
		if saved, ok := impl.SavedTime(times, k); !ok || saved != pairTime(times)-pairTime(changed) {
			t.Fatalf("SavedTime(%v, %d) = %v, %v", times, k, saved, ok)
		}
		changed[k] = times[k] - 1
		tight, ok := impl.IsTight(times, k)
		if times[k] == 1 && (tight || ok) || times[k] > 1 && (!ok || tight != (pairTime(changed) < pairTime(times))) {
			t.Fatalf("IsTight(%v, %d) = %v, %v", times, k, tight, ok)
		}
	}
}

// allTimes are all lists of so many times up to most, falling or not.
func allTimes(people, most int) [][]int {
	lists := [][]int{{}}
	for range people {
		var longer [][]int
		for _, list := range lists {
			for time := 1; time <= most; time++ {
				longer = append(longer, append(slices.Clone(list), time))
			}
		}
		lists = longer
	}
	return lists
}

// someTimes are many lists of so many times up to most that follow no plain rule, the same ones in each run.
func someTimes(people, most, lists int) [][]int {
	seed := uint32(people*1000 + most)
	var all [][]int
	for range lists {
		list := make([]int, people)
		for k := range list {
			seed = seed*1664525 + 1013904223
			list[k] = 1 + int(seed>>8)%most
		}
		all = append(all, list)
	}
	return all
}

func TestExampleOfChapter2(t *testing.T) {
	l := []int{1, 2, 5, 10}
	if n, ok := impl.PairTime(l); n != 17 || !ok {
		t.Error("time", n, ok)
	}
	if s, ok := impl.PairRounds(l); s != "f" || !ok {
		t.Error("rounds", s, ok)
	}
	if plan, ok := impl.PairPlan(l); !ok || !sameLists(plan, [][]int{{0, 1}, {0}, {2, 3}, {1}, {0, 1}}) {
		t.Error("plan", plan, ok)
	}
	if n, ok := impl.EscortTime(l); n != 19 || !ok {
		t.Error("escort", n, ok)
	}
	if plan, ok := impl.EscortPlan(l); !ok || !sameLists(plan, [][]int{{0, 3}, {0}, {0, 2}, {0}, {0, 1}}) {
		t.Error("escort plan", plan, ok)
	}
	if n, ok := impl.PairGain(l); n != 2 || !ok {
		t.Error("gain", n, ok)
	}
	if who, ok := impl.WhoComesBack(l); !ok || !slices.Equal(who, []int{0, 1}) {
		t.Error("back", who, ok)
	}
	other := []int{1, 4, 5, 10}
	if n, ok := impl.PairTime(other); n != 21 || !ok {
		t.Error("other time", n, ok)
	}
	if s, ok := impl.PairRounds(other); s != "e" || !ok {
		t.Error("other rounds", s, ok)
	}
	if n, ok := impl.PairTrips(4); n != 5 || !ok {
		t.Error("trips", n, ok)
	}
}

// Promise 2, with all lists of few people: the plans have the told time, and it is the least.
func TestAllShortLists(t *testing.T) {
	for _, c := range []struct{ people, most int }{{1, 20}, {2, 9}, {3, 7}, {4, 7}, {5, 4}, {6, 3}, {7, 2}} {
		for _, times := range allTimes(c.people, c.most) {
			checkPairs(t, times)
			checkPeople(t, times)
			checkLeast(t, times)
		}
	}
}

// Promise 2, with more people and greater times.
func TestLongLists(t *testing.T) {
	for people := 4; people <= impl.MaxPaired; people++ {
		for _, most := range []int{3, 12, 60, impl.MaxTime} {
			for _, times := range someTimes(people, most, 40) {
				checkPairs(t, times)
				checkPeople(t, times)
			}
			for _, times := range someTimes(people, most, 24/people) {
				checkLeast(t, times)
			}
		}
	}
}

func TestFewPeople(t *testing.T) {
	for _, c := range []struct {
		times []int
		time  int
		plan  [][]int
	}{
		{[]int{1}, 1, [][]int{{0}}},
		{[]int{7}, 7, [][]int{{0}}},
		{[]int{1000}, 1000, [][]int{{0}}},
		{[]int{3, 8}, 8, [][]int{{0, 1}}},
		{[]int{8, 3}, 8, [][]int{{0, 1}}},
		{[]int{4, 4}, 4, [][]int{{0, 1}}},
		{[]int{1, 2, 3}, 6, [][]int{{0, 1}, {0}, {0, 2}}},
		{[]int{9, 4, 6}, 19, [][]int{{1, 2}, {1}, {0, 1}}},
		{[]int{5, 5, 5}, 15, [][]int{{0, 1}, {0}, {0, 2}}},
		{[]int{5, 2, 2}, 9, [][]int{{1, 2}, {1}, {0, 1}}},
	} {
		if n, ok := impl.PairTime(c.times); n != c.time || !ok {
			t.Errorf("PairTime(%v) = %v, %v", c.times, n, ok)
		}
		if n, ok := impl.EscortTime(c.times); n != c.time || !ok {
			t.Errorf("EscortTime(%v) = %v, %v", c.times, n, ok)
		}
		if plan, ok := impl.PairPlan(c.times); !ok || !sameLists(plan, c.plan) {
			t.Errorf("PairPlan(%v) = %v, %v", c.times, plan, ok)
		}
		if plan, ok := impl.EscortPlan(c.times); !ok || !sameLists(plan, c.plan) {
			t.Errorf("EscortPlan(%v) = %v, %v", c.times, plan, ok)
		}
		if s, ok := impl.PairRounds(c.times); s != "" || !ok {
			t.Errorf("PairRounds(%v) = %q, %v", c.times, s, ok)
		}
		if has, ok := impl.HasEvenRound(c.times); has || !ok {
			t.Errorf("HasEvenRound(%v) = %v, %v", c.times, has, ok)
		}
		if n, ok := impl.PairGain(c.times); n != 0 || !ok {
			t.Errorf("PairGain(%v) = %v, %v", c.times, n, ok)
		}
		if who, ok := impl.WhoComesBack(c.times); !ok || !slices.Equal(who, backOf(t, c.plan)) {
			t.Errorf("WhoComesBack(%v) = %v, %v", c.times, who, ok)
		}
	}
}

func TestOrderOfPeople(t *testing.T) {
	for _, c := range []struct{ times, order []int }{
		{[]int{10, 5, 2, 1}, []int{3, 2, 1, 0}},
		{[]int{5, 1, 5, 1}, []int{1, 3, 0, 2}},
		{[]int{4, 4, 4, 4, 4}, []int{0, 1, 2, 3, 4}},
		{[]int{2, 1, 2, 1, 2, 1, 2, 1, 2, 1, 2, 1}, []int{1, 3, 5, 7, 9, 11, 0, 2, 4, 6, 8, 10}},
	} {
		if order, ok := impl.RankOfPace(c.times); !ok || !slices.Equal(order, c.order) {
			t.Errorf("RankOfPace(%v) = %v, %v", c.times, order, ok)
		}
	}
	for _, c := range []struct {
		times []int
		plan  [][]int
	}{
		{[]int{10, 5, 2, 1}, [][]int{{2, 3}, {3}, {0, 1}, {2}, {2, 3}}},
		{[]int{1, 1, 1, 1}, [][]int{{0, 3}, {0}, {0, 2}, {0}, {0, 1}}},
		{[]int{9, 2, 9, 2}, [][]int{{1, 3}, {1}, {0, 2}, {3}, {1, 3}}},
		{[]int{9, 2, 9, 2, 9}, [][]int{{1, 3}, {1}, {2, 4}, {3}, {1, 3}, {1}, {0, 1}}},
		{[]int{5, 4, 5, 1}, [][]int{{2, 3}, {3}, {0, 3}, {3}, {1, 3}}},
	} {
		if plan, ok := impl.PairPlan(c.times); !ok || !sameLists(plan, c.plan) {
			t.Errorf("PairPlan(%v) = %v, %v", c.times, plan, ok)
		}
	}
}

func TestKindsOfRounds(t *testing.T) {
	for _, c := range []struct {
		times  []int
		rounds string
		even   bool
	}{
		{[]int{1, 2, 3, 4}, "e", true},
		{[]int{4, 3, 2, 1}, "e", true},
		{[]int{1, 2, 4, 4}, "f", false},
		{[]int{1, 3, 4, 4}, "e", false},
		{[]int{1, 3, 3, 5, 9}, "e", true},
		{[]int{1, 3, 5, 6, 9}, "f", false},
		{[]int{1, 5, 5, 5, 12, 12}, "fe", false},
		{[]int{1, 3, 5, 8, 9, 9}, "fe", true},
		{[]int{1, 3, 4, 5, 5, 5}, "ee", true},
		{[]int{1, 2, 9, 9, 9, 9, 9}, "ff", false},
		{[]int{1, 3, 5, 5, 5, 6, 6, 6}, "fee", true},
		{[]int{7, 7, 7, 7, 7, 7, 7, 7, 7, 7, 7}, "eeee", true},
		{[]int{1, 2, 8, 8, 8, 8, 8, 8, 8, 8, 8, 8}, "fffff", false},
		{[]int{1, 10, 10, 10, 10, 10, 18, 18, 18, 20, 20, 20}, "feeee", false},
		{[]int{1, 10, 10, 10, 10, 10, 18, 18, 19, 20, 20, 20}, "feeee", true},
	} {
		if s, ok := impl.PairRounds(c.times); s != c.rounds || !ok {
			t.Errorf("PairRounds(%v) = %q, %v", c.times, s, ok)
		}
		if n, ok := impl.CountFetches(c.times); n != strings.Count(c.rounds, "f") || !ok {
			t.Errorf("CountFetches(%v) = %v, %v", c.times, n, ok)
		}
		if has, ok := impl.HasEvenRound(c.times); has != c.even || !ok {
			t.Errorf("HasEvenRound(%v) = %v, %v", c.times, has, ok)
		}
	}
}

func TestTwelvePeopleAndThousand(t *testing.T) {
	slow := slices.Repeat([]int{1000}, 12)
	checkPairs(t, slow)
	checkPeople(t, slow)
	checkLeast(t, slow)
	if n, ok := impl.PairTime(slow); n != 21000 || !ok {
		t.Error("time", n, ok)
	}
	if n, ok := impl.SavedTime(slow, 11); n != 21000-11000-10 || !ok {
		t.Error("saved", n, ok)
	}
	if n, ok := impl.AddedTime(slow[:11], 1000); n != 2000 || !ok {
		t.Error("the twelfth one adds", n, ok)
	}
	if n, ok := impl.AddedTime(slow, 1000); n != 0 || ok {
		t.Error("the thirteenth one adds", n, ok)
	}
	mixed := []int{1000, 1, 1000, 2, 1000, 1000, 1000, 1000, 1000, 1000, 1000, 1000}
	checkPairs(t, mixed)
	checkLeast(t, mixed)
	if n, ok := impl.PairTime(mixed); n != 5*1005+2 || !ok {
		t.Error("mixed time", n, ok)
	}
}

func TestPairTrips(t *testing.T) {
	for people, want := range []int{0, 1, 1, 3, 5, 7, 9, 11, 13, 15, 17, 19, 21, 0} {
		if n, ok := impl.PairTrips(people); n != want || ok != (want > 0) {
			t.Errorf("PairTrips(%d) = %v, %v", people, n, ok)
		}
	}
	for _, people := range []int{-1, math.MinInt, math.MaxInt, math.MaxInt/2 + 2} {
		if n, ok := impl.PairTrips(people); n != 0 || ok {
			t.Errorf("PairTrips(%d) = %v, %v", people, n, ok)
		}
	}
}

func TestAddedTime(t *testing.T) {
	for _, c := range []struct {
		times []int
		time  int
		want  int
	}{
		{[]int{1}, 1, 0},
		{[]int{5}, 1000, 995},
		{[]int{2, 5}, 1, 3},
		{[]int{1, 2, 5}, 10, 9},
		{[]int{1, 2, 5, 10}, 1, 0},
		{[]int{10, 10, 10, 10}, 1, -7},
		{[]int{10, 10, 10}, 1, 2},
	} {
		if n, ok := impl.AddedTime(c.times, c.time); n != c.want || !ok {
			t.Errorf("AddedTime(%v, %d) = %v, %v", c.times, c.time, n, ok)
		}
	}
	for _, time := range []int{0, -1, 1001, math.MinInt, math.MaxInt} {
		if n, ok := impl.AddedTime([]int{1, 2, 5}, time); n != 0 || ok {
			t.Errorf("AddedTime with %d = %v, %v", time, n, ok)
		}
	}
}

func TestFasterPeople(t *testing.T) {
	l := []int{1, 2, 5, 10}
	for k, want := range []int{0, 3, 3, 8} {
		if n, ok := impl.SavedTime(l, k); n != want || !ok {
			t.Errorf("SavedTime(%v, %d) = %v, %v", l, k, n, ok)
		}
	}
	for k, want := range []bool{false, true, false, true} {
		if tight, ok := impl.IsTight(l, k); tight != want || ok != (k > 0) {
			t.Errorf("IsTight(%v, %d) = %v, %v", l, k, tight, ok)
		}
	}
	// Of two equally slow ones neither alone delays the others.
	for k, want := range []bool{true, true, false, false} {
		if tight, ok := impl.IsTight([]int{2, 3, 9, 9}, k); tight != want || !ok {
			t.Errorf("IsTight of %d = %v, %v", k, tight, ok)
		}
	}
	if n, ok := impl.SavedTime([]int{1}, 0); n != 0 || !ok {
		t.Error("the time 1 saves", n, ok)
	}
	if tight, ok := impl.IsTight([]int{1}, 0); tight || ok {
		t.Error("the time 1 alone is tight", tight, ok)
	}
	if tight, ok := impl.IsTight([]int{2}, 0); !tight || !ok {
		t.Error("the time 2 alone is not tight", tight, ok)
	}
	if n, ok := impl.SavedTime([]int{1000}, 0); n != 999 || !ok {
		t.Error("the time 1000 saves", n, ok)
	}
}

// CountPairLists and FirstPairList with all numbers of people and greatest times, and all totals that there are.
func TestPairLists(t *testing.T) {
	for people := 1; people <= 4; people++ {
		for most := 1; most <= 12; most++ {
			count, first := map[int]int{}, map[int][]int{}
			for _, list := range allTimes(people, most) {
				if !slices.IsSorted(list) {
					continue
				}
				total := pairTime(list)
				if count[total]++; count[total] == 1 {
					first[total] = list
				}
			}
			for total := 0; total <= 70; total++ {
				if n, ok := impl.CountPairLists(people, most, total); n != count[total] || !ok {
					t.Fatalf("CountPairLists(%d, %d, %d) = %v, %v, want %v", people, most, total, n, ok, count[total])
				}
				list, ok := impl.FirstPairList(people, most, total)
				if !slices.Equal(list, first[total]) || ok != (count[total] > 0) {
					t.Fatalf("FirstPairList(%d, %d, %d) = %v, %v, want %v", people, most, total, list, ok, first[total])
				}
			}
		}
	}
}

func TestLimitsOfPairLists(t *testing.T) {
	for _, c := range []struct {
		people, most, total int
		count               int
		first               []int
	}{
		{1, 1, 1, 1, []int{1}},
		{1, 12, 12, 1, []int{12}},
		{1, 11, 12, 0, nil},
		{2, 12, 12, 12, []int{1, 12}},
		{3, 12, 36, 1, []int{12, 12, 12}},
		{4, 12, 60, 1, []int{12, 12, 12, 12}},
		{4, 1, 5, 1, []int{1, 1, 1, 1}},
		{4, 12, 0, 0, nil},
		{1, 1, 0, 0, nil},
		{4, 12, 1000, 0, nil},
		{1, 1, 1000, 0, nil},
	} {
		if n, ok := impl.CountPairLists(c.people, c.most, c.total); n != c.count || !ok {
			t.Errorf("CountPairLists%v = %v, %v", c, n, ok)
		}
		if list, ok := impl.FirstPairList(c.people, c.most, c.total); !slices.Equal(list, c.first) || ok != (c.count > 0) {
			t.Errorf("FirstPairList%v = %v, %v", c, list, ok)
		}
	}
	for _, c := range [][3]int{
		{0, 5, 5}, {5, 5, 7}, {-1, 5, 5}, {math.MaxInt, 5, 5}, {math.MinInt, 5, 5},
		{2, 0, 5}, {2, 13, 5}, {2, -1, 5}, {2, math.MaxInt, 5}, {2, math.MinInt, 5},
		{2, 5, -1}, {2, 5, 1001}, {2, 5, math.MaxInt}, {2, 5, math.MinInt}, {0, 0, 0},
	} {
		if n, ok := impl.CountPairLists(c[0], c[1], c[2]); n != 0 || ok {
			t.Errorf("CountPairLists%v = %v, %v", c, n, ok)
		}
		if list, ok := impl.FirstPairList(c[0], c[1], c[2]); len(list) != 0 || ok {
			t.Errorf("FirstPairList%v = %v, %v", c, list, ok)
		}
	}
}
