package tests

import (
	"math"
	"slices"
	"strconv"
	"testing"

	"loop.example/g01272/impl"
)

func night(t *testing.T, text string) impl.Night {
	t.Helper()
	n, ok := impl.ParseNight(text)
	if !ok {
		t.Fatalf("ParseNight(%q) fails", text)
	}
	return n
}

// campOf is the camp that is told by x for each person who is over and . for each other one, and the number of torches that are over.
func campOf(text string) impl.Camp {
	over := []bool{}
	for _, c := range text[:len(text)-1] {
		over = append(over, c == 'x')
	}
	return impl.Camp{Over: over, Torches: int(text[len(text)-1] - '0')}
}

func campText(c impl.Camp) string {
	text := ""
	for _, over := range c.Over {
		if over {
			text += "x"
		} else {
			text += "."
		}
	}
	return text + strconv.Itoa(c.Torches)
}

func isZeroNight(n impl.Night) bool { return len(n.Times) == 0 && n.Seats == 0 && n.Torches == 0 }

func isZeroCamp(c impl.Camp) bool { return len(c.Over) == 0 && c.Torches == 0 }

func sameNight(a, b impl.Night) bool {
	return slices.Equal(a.Times, b.Times) && a.Seats == b.Seats && a.Torches == b.Torches
}

// sameRounds compares plans, or the rounds in a camp.
func sameRounds(a, b [][][]int) bool { return slices.EqualFunc(a, b, sameLists) }

// nightsWith are the nights of people with some times, with all numbers of seats and torches.
func nightsWith(times []int) []impl.Night {
	var list []impl.Night
	for seats := 1; seats <= impl.MaxSeats; seats++ {
		for torches := 1; torches <= impl.MaxTorches; torches++ {
			list = append(list, impl.Night{Times: times, Seats: seats, Torches: torches})
		}
	}
	return list
}

// nightsOf are all nights of so many people with times up to one.
func nightsOf(people, slowest int) []impl.Night {
	var list []impl.Night
	for _, times := range allTimes(people, slowest) {
		list = append(list, nightsWith(times)...)
	}
	return list
}

func smallNights() []impl.Night {
	return slices.Concat(nightsOf(1, 4), nightsOf(2, 4), nightsOf(3, 3), nightsOf(4, 2))
}

// otherNights are nights of three to MaxNight people whose times follow no plain rule.
func otherNights(each int) []impl.Night {
	var list []impl.Night
	for people := 3; people <= impl.MaxNight; people++ {
		for _, slowest := range []int{5, 12, impl.MaxTime} {
			for _, times := range someTimes(people, slowest, each) {
				list = append(list, nightsWith(times)...)
			}
		}
	}
	return list
}

// badNights have a number or a list that is none.
func badNights() []impl.Night {
	three := []int{3, 1, 2}
	list := []impl.Night{
		{}, {Seats: 2, Torches: 2}, {Times: []int{}, Seats: 1, Torches: 1}, {Times: three}, {Times: three, Seats: 2}, {Times: three, Torches: 2},
		{Times: slices.Repeat([]int{1}, 7), Seats: 2, Torches: 2}, {Times: slices.Repeat([]int{1}, 8), Seats: 2, Torches: 2},
		{Times: slices.Repeat([]int{1}, 9), Seats: 2, Torches: 2}, {Times: slices.Repeat([]int{1}, 1000), Seats: 3, Torches: 1},
	}
	for _, n := range []int{0, -1, math.MinInt, math.MaxInt, 1 << 32} {
		list = append(list, impl.Night{Times: three, Seats: n, Torches: 1}, impl.Night{Times: three, Seats: 2, Torches: n}, impl.Night{Times: []int{n}, Seats: n, Torches: n})
	}
	list = append(list, impl.Night{Times: three, Seats: impl.MaxSeats + 1, Torches: 1}, impl.Night{Times: three, Seats: 2, Torches: impl.MaxTorches + 1})
	for _, time := range []int{0, -1, impl.MaxTime + 1, math.MinInt, math.MaxInt} {
		for k := range three {
			times := slices.Clone(three)
			times[k] = time
			list = append(list, impl.Night{Times: times, Seats: 2, Torches: 2})
		}
		list = append(list, impl.Night{Times: []int{time}, Seats: 1, Torches: 1})
	}
	return list
}

// campsOf are all camps of so many people with so many torches.
func campsOf(people, torches int) []impl.Camp {
	var list []impl.Camp
	for _, over := range everyRows(people) {
		for there := range torches + 1 {
			list = append(list, impl.Camp{Over: slices.Clone(over), Torches: there})
		}
	}
	return list
}

// badCamps are no camps of four people with two torches.
func badCamps() []impl.Camp {
	list := []impl.Camp{{}, {Torches: 1}, {Over: []bool{}}, {Over: make([]bool, 1000)}}
	for _, text := range []string{"...0", "xxx1", "...2", ".....0", "xxxxx2", ".......1", "........1", ".........1"} {
		list = append(list, campOf(text))
	}
	for _, torches := range []int{-1, 3, math.MinInt, math.MaxInt, 1 << 32} {
		list = append(list, impl.Camp{Over: make([]bool, 4), Torches: torches}, impl.Camp{Over: slices.Repeat([]bool{true}, 4), Torches: torches})
	}
	return list
}

// areGroups tells by the words of the document whether lists of any numbers are what RoundTime is asked about.
func areGroups(n impl.Night, lists [][]int) bool {
	if len(lists) < 1 || len(lists) > n.Torches {
		return false
	}
	seen := map[int]bool{}
	for _, list := range lists {
		if len(list) < 1 || len(list) > n.Seats {
			return false
		}
		for i, k := range list {
			if k < 0 || k >= len(n.Times) || seen[k] || i > 0 && k <= list[i-1] {
				return false
			}
			seen[k] = true
		}
	}
	return true
}

// isRound tells by the words of the document whether lists of any numbers are a round in a camp.
func isRound(n impl.Night, c impl.Camp, lists [][]int) bool {
	if !areGroups(n, lists) {
		return false
	}
	torches := map[bool]int{false: n.Torches - c.Torches, true: c.Torches}
	for i, list := range lists {
		if i > 0 && slices.Compare(lists[i-1], list) >= 0 {
			return false
		}
		side := c.Over[list[0]]
		if slices.ContainsFunc(list, func(k int) bool { return c.Over[k] != side }) {
			return false
		}
		torches[side]--
	}
	return torches[false] >= 0 && torches[true] >= 0
}

// roundsBySets are the rounds in a camp found by going through all sets of people, and through all pairs of them.
func roundsBySets(n impl.Night, c impl.Camp) [][][]int {
	var rounds [][][]int
	add := func(lists ...[]int) {
		if isRound(n, c, lists) {
			rounds = append(rounds, lists)
		}
	}
	sets := setsOf(len(n.Times))
	for _, one := range sets {
		add(one)
		for _, other := range sets {
			add(one, other)
		}
	}
	slices.SortFunc(rounds, comparePlans)
	return rounds
}

// afterRound is the camp behind a round.
func afterRound(c impl.Camp, round [][]int) impl.Camp {
	there := impl.Camp{Over: slices.Clone(c.Over), Torches: c.Torches}
	for _, list := range round {
		if c.Over[list[0]] {
			there.Torches--
		} else {
			there.Torches++
		}
		for _, k := range list {
			there.Over[k] = !c.Over[k]
		}
	}
	return there
}

// slowestIn is the time of lists that are groups.
func slowestIn(times []int, lists [][]int) int { return slowestOf(times, slices.Concat(lists...)) }

func TestExampleOfChapter8(t *testing.T) {
	n, ok := impl.ParseNight("2*2:1,2,5,10")
	if !ok || !sameNight(n, impl.Night{Times: []int{1, 2, 5, 10}, Seats: 2, Torches: 2}) {
		t.Error("night", n, ok)
	}
	if time, ok := impl.LeastNight(n); time != 10 || !ok {
		t.Error("least", time, ok)
	}
	if plan, ok := impl.FirstNight(n); !ok || !sameRounds(plan, [][][]int{{{0, 1}, {2, 3}}}) {
		t.Error("first", plan, ok)
	}
	if rounds, ok := impl.FewestRounds(n); rounds != 1 || !ok {
		t.Error("fewest", rounds, ok)
	}
	if gain, ok := impl.TorchGain(n); gain != 7 || !ok {
		t.Error("gain", gain, ok)
	}
	one := night(t, "1*2:1,2,5,10")
	if time, ok := impl.LeastNight(one); time != 17 || !ok {
		t.Error("one torch", time, ok)
	}
	if gain, ok := impl.TorchGain(one); gain != 7 || !ok {
		t.Error("gain of one torch", gain, ok)
	}
	both := night(t, "2*1:3,4")
	if time, ok := impl.LeastNight(both); time != 4 || !ok {
		t.Error("both", time, ok)
	}
	if plan, ok := impl.FirstNight(both); !ok || !sameRounds(plan, [][][]int{{{0}, {1}}}) {
		t.Error("both at once", plan, ok)
	}
	none := night(t, "1*1:3,4")
	if time, ok := impl.LeastNight(none); time != 0 || ok {
		t.Error("no plan", time, ok)
	}
	if plan, ok := impl.FirstNight(none); len(plan) != 0 || ok {
		t.Error("no first plan", plan, ok)
	}
	if rounds, ok := impl.FewestRounds(none); rounds != 0 || ok {
		t.Error("no rounds", rounds, ok)
	}
	if gain, ok := impl.TorchGain(none); gain != 0 || ok {
		t.Error("no gain", gain, ok)
	}
}

func TestIsNight(t *testing.T) {
	nights := slices.Concat(smallNights(), otherNights(2), nightsWith([]int{impl.MaxTime}), nightsWith(slices.Repeat([]int{impl.MaxTime}, impl.MaxNight)))
	for _, n := range nights {
		if !impl.IsNight(n) {
			t.Error(n, "is none")
		}
	}
	for _, n := range badNights() {
		if impl.IsNight(n) {
			t.Error(n, "is one")
		}
	}
}

func TestIsCamp(t *testing.T) {
	for people := 1; people <= impl.MaxNight; people++ {
		for _, n := range nightsWith([]int{4, 1, 9, 4, 2, 7}[:people:people]) {
			for torches := 1; torches <= impl.MaxTorches; torches++ {
				for _, c := range campsOf(people, torches) {
					if is := impl.IsCamp(n, c); is != (c.Torches <= n.Torches) {
						t.Errorf("IsCamp(%v, %s) = %v", n, campText(c), is)
					}
				}
			}
			for _, other := range []int{0, people - 1, people + 1, 8, 9, 1000} {
				if c := (impl.Camp{Over: make([]bool, other)}); impl.IsCamp(n, c) {
					t.Errorf("%v has a camp of %d people", n, other)
				}
			}
		}
	}
	n := night(t, "2*2:1,2,5,10")
	for _, c := range badCamps() {
		if impl.IsCamp(n, c) {
			t.Error(c, "is one")
		}
	}
	for _, n := range badNights() {
		for _, c := range []impl.Camp{{}, {Over: make([]bool, len(n.Times))}, campOf("...0"), campOf(".0")} {
			if impl.IsCamp(n, c) {
				t.Error(n, "has the camp", c)
			}
		}
	}
}

func TestFirstCamp(t *testing.T) {
	for people := 1; people <= impl.MaxNight; people++ {
		for _, n := range nightsWith([]int{4, 1, 9, 4, 2, 7}[:people:people]) {
			c, ok := impl.FirstCamp(n)
			if want := (impl.Camp{Over: make([]bool, people)}); !ok || campText(c) != campText(want) || !impl.IsCamp(n, c) {
				t.Errorf("FirstCamp(%v) = %v, %v", n, c, ok)
			}
		}
	}
	for _, n := range badNights() {
		if c, ok := impl.FirstCamp(n); ok || !isZeroCamp(c) {
			t.Errorf("FirstCamp(%v) = %v, %v", n, c, ok)
		}
	}
}

// checkRound checks what is told of a round in a camp: that it leads to a camp, and back from it again.
func checkRound(t *testing.T, n impl.Night, c impl.Camp, round [][]int) {
	t.Helper()
	if can, ok := impl.CanRound(n, c, round); !can || !ok {
		t.Fatalf("CanRound(%v, %s, %v) = %v, %v", n, campText(c), round, can, ok)
	}
	want := campText(afterRound(c, round))
	there, ok := impl.RoundAfter(n, c, round)
	if !ok || campText(there) != want || !impl.IsCamp(n, there) {
		t.Fatalf("RoundAfter(%v, %s, %v) = %v, %v, want %s", n, campText(c), round, there, ok, want)
	}
	if back, ok := impl.RoundAfter(n, there, round); !ok || campText(back) != campText(c) {
		t.Fatalf("RoundAfter(%v, %s, %v) = %v, %v", n, want, round, back, ok)
	}
	if back, ok := impl.RoundsAfter(n, c, [][][]int{round, round}); !ok || campText(back) != campText(c) {
		t.Fatalf("RoundsAfter(%v, %s, %v twice) = %v, %v", n, campText(c), round, back, ok)
	}
	if time, ok := impl.RoundTime(n, round); !ok || time != slowestIn(n.Times, round) {
		t.Fatalf("RoundTime(%v, %v) = %v, %v", n, round, time, ok)
	}
}

// checkCamp checks all rounds in a camp.
func checkCamp(t *testing.T, n impl.Night, c impl.Camp) {
	t.Helper()
	want := roundsBySets(n, c)
	if rounds, ok := impl.RoundsOfNight(n, c); !ok || !sameRounds(rounds, want) {
		t.Fatalf("RoundsOfNight(%v, %s) = %v, %v, want %v", n, campText(c), rounds, ok, want)
	}
	for _, round := range want {
		checkRound(t, n, c, round)
	}
}

// Promise 8: rounds lead from camp to camp, in all camps of few people, those with them that are not reached.
func TestRoundsOfAllCamps(t *testing.T) {
	for people := 1; people <= 4; people++ {
		for _, n := range nightsWith([]int{4, 1, 9, 4}[:people:people]) {
			for _, c := range campsOf(people, n.Torches) {
				checkCamp(t, n, c)
			}
		}
	}
}

func TestRoundsOfMorePeople(t *testing.T) {
	for people := 5; people <= impl.MaxNight; people++ {
		for _, n := range nightsWith([]int{40, 1000, 9, 3, 2, 7}[:people:people]) {
			camps := campsOf(people, n.Torches)
			for i := 0; i < len(camps); i += 1 + people - 5 + i%3 {
				checkCamp(t, n, camps[i])
			}
			checkCamp(t, n, camps[len(camps)-1])
		}
	}
}

// In a camp of all people on one side with two torches, all disjoint pairs of groups of up to three can go.
func TestCountsOfRounds(t *testing.T) {
	for _, k := range []struct {
		seats, torches, rounds int
	}{
		{1, 1, 6}, {2, 1, 6 + 15}, {3, 1, 6 + 15 + 20},
		{1, 2, 6 + 15}, {2, 2, 6 + 15 + 15 + 6*10 + 45}, {3, 2, 6 + 15 + 20 + 15 + 6*10 + 6*10 + 45 + 15*4 + 10},
	} {
		n := impl.Night{Times: []int{1, 2, 3, 4, 5, 6}, Seats: k.seats, Torches: k.torches}
		for _, c := range []impl.Camp{campOf("......0"), {Over: slices.Repeat([]bool{true}, 6), Torches: k.torches}} {
			if rounds, ok := impl.RoundsOfNight(n, c); len(rounds) != k.rounds || !ok {
				t.Error(k, campText(c), len(rounds), ok)
			}
		}
	}
}

func TestRoundsOfSomeCamps(t *testing.T) {
	all := [][][]int{{{0}}, {{0}, {1}}, {{0}, {1, 2}}, {{0}, {2}}, {{0, 1}}, {{0, 1}, {2}}, {{0, 2}}, {{0, 2}, {1}}, {{1}}, {{1}, {2}}, {{1, 2}}, {{2}}}
	single := [][][]int{{{0}}, {{0, 1}}, {{0, 2}}, {{1}}, {{1, 2}}, {{2}}}
	for _, k := range []struct {
		night, camp string
		rounds      [][][]int
	}{
		{"2*2:1,2,5", "...0", all},
		{"2*2:1,2,5", "xxx2", all},
		// One torch here, and one where it is of no use.
		{"2*2:1,2,5", "...1", single},
		{"2*2:1,2,5", "xxx1", single},
		{"1*2:1,2,5", "...0", single},
		{"1*2:1,2,5", "xxx1", single},
		// People, but no torch.
		{"2*2:1,2,5", "...2", nil},
		{"2*2:1,2,5", "xxx0", nil},
		{"1*2:1,2,5", "...1", nil},
		{"1*2:1,2,5", "xxx0", nil},
		{"2*2:1,2,5", "x..2", [][][]int{{{0}}}},
		{"2*2:1,2,5", "xx.0", [][][]int{{{2}}}},
		{"1*2:1,2,5", "x.x1", [][][]int{{{0}}, {{0, 2}}, {{2}}}},
		{"1*2:1,2,5", "x.x0", [][][]int{{{1}}}},
		// From both sides at the same time.
		{"2*2:1,2,5", "x..1", [][][]int{{{0}}, {{0}, {1}}, {{0}, {1, 2}}, {{0}, {2}}, {{1}}, {{1, 2}}, {{2}}}},
		{"2*2:1,2,5", "x.x1", [][][]int{{{0}}, {{0}, {1}}, {{0, 2}}, {{0, 2}, {1}}, {{1}}, {{1}, {2}}, {{2}}}},
		{"2*1:1,2,5", "x.x1", [][][]int{{{0}}, {{0}, {1}}, {{1}}, {{1}, {2}}, {{2}}}},
		{"2*1:1,2,5", "x.x2", [][][]int{{{0}}, {{0}, {2}}, {{2}}}},
		{"2*1:1,2,5", "x.x0", [][][]int{{{1}}}},
		{"2*3:1,2,5", "...0", [][][]int{{{0}}, {{0}, {1}}, {{0}, {1, 2}}, {{0}, {2}}, {{0, 1}}, {{0, 1}, {2}}, {{0, 1, 2}}, {{0, 2}}, {{0, 2}, {1}}, {{1}}, {{1}, {2}}, {{1, 2}}, {{2}}}},
		{"2*3:1,2,5", "...1", [][][]int{{{0}}, {{0, 1}}, {{0, 1, 2}}, {{0, 2}}, {{1}}, {{1, 2}}, {{2}}}},
		{"1*1:7", ".0", [][][]int{{{0}}}},
		{"1*1:7", ".1", nil},
		{"2*1:7", ".0", [][][]int{{{0}}}},
		{"2*1:7", ".1", [][][]int{{{0}}}},
		{"2*1:7", ".2", nil},
		{"2*1:7", "x0", nil},
		{"2*3:7", "x1", [][][]int{{{0}}}},
		{"2*3:7", "x2", [][][]int{{{0}}}},
		{"2*2:3,4", "x.1", [][][]int{{{0}}, {{0}, {1}}, {{1}}}},
	} {
		n, c := night(t, k.night), campOf(k.camp)
		if rounds, ok := impl.RoundsOfNight(n, c); !ok || !sameRounds(rounds, k.rounds) {
			t.Error(k, rounds, ok)
		}
		checkCamp(t, n, c)
	}
}

// checkLists holds what is told of lists in a camp against the words of the document.
func checkLists(t *testing.T, n impl.Night, c impl.Camp, lists [][]int) {
	t.Helper()
	is := isRound(n, c, lists)
	if can, ok := impl.CanRound(n, c, lists); can != is || !ok {
		t.Fatalf("CanRound(%v, %s, %v) = %v, %v, want %v", n, campText(c), lists, can, ok, is)
	}
	there, ok := impl.RoundAfter(n, c, lists)
	if ok != is || !ok && !isZeroCamp(there) || ok && campText(there) != campText(afterRound(c, lists)) {
		t.Fatalf("RoundAfter(%v, %s, %v) = %v, %v, want %v", n, campText(c), lists, there, ok, is)
	}
	checkRoundTime(t, n, lists)
}

func checkRoundTime(t *testing.T, n impl.Night, lists [][]int) {
	t.Helper()
	are, want := areGroups(n, lists), 0
	if are {
		want = slowestIn(n.Times, lists)
	}
	if time, ok := impl.RoundTime(n, lists); time != want || ok != are {
		t.Fatalf("RoundTime(%v, %v) = %v, %v, want %v, %v", n, lists, time, ok, want, are)
	}
}

// All lists of no sets of people, of one, of two, and of three, those of nobody with them.
func TestCanRoundOfAllLists(t *testing.T) {
	for people := 1; people <= 3; people++ {
		lists := [][][]int{nil}
		for i := 0; i < len(lists); i++ {
			for _, set := range setsOf(people) {
				if len(lists[i]) < 3 {
					lists = append(lists, append(slices.Clip(lists[i]), set))
				}
			}
		}
		for _, n := range nightsWith([]int{4, 1, 9}[:people:people]) {
			for _, c := range campsOf(people, n.Torches) {
				for _, list := range lists {
					checkLists(t, n, c, list)
				}
			}
		}
	}
}

func TestListsThatAreNoRound(t *testing.T) {
	n := night(t, "2*2:1,2,5,10,20")
	for _, k := range []struct {
		camp  string
		lists [][]int
	}{
		// No group, and too many.
		{".....0", nil}, {".....0", [][]int{}}, {".....0", [][]int{{0}, {1}, {2}}}, {"x.x..1", [][]int{{0}, {1}, {2}}}, {".....0", make([][]int, 3)}, {".....0", make([][]int, 1000)},
		// Groups of nobody, that do not rise, and of too many.
		{".....0", [][]int{nil}}, {".....0", [][]int{{}}}, {".....0", [][]int{{}, {0}}}, {".....0", [][]int{{0}, {}}}, {".....0", [][]int{nil, nil}},
		{".....0", [][]int{{1, 0}}}, {".....0", [][]int{{0, 0}}}, {".....0", [][]int{{0}, {2, 1}}}, {".....0", [][]int{{3, 2}, {4}}}, {".....0", [][]int{{0}, {1, 1}}},
		{".....0", [][]int{{0, 1, 2}}}, {".....0", [][]int{{0}, {1, 2, 3}}}, {".....0", [][]int{{0, 1, 2}, {3}}}, {".....0", [][]int{make([]int, 1000)}},
		// People that there are not.
		{".....0", [][]int{{5}}}, {".....0", [][]int{{4, 5}}}, {".....0", [][]int{{6}}}, {".....0", [][]int{{7}}}, {".....0", [][]int{{8}}}, {".....0", [][]int{{-1}}}, {".....0", [][]int{{-1, 0}}},
		{".....0", [][]int{{0}, {5}}}, {".....0", [][]int{{-1}, {0}}}, {".....0", [][]int{{math.MinInt}}}, {".....0", [][]int{{math.MaxInt}}}, {".....0", [][]int{{math.MinInt, math.MaxInt}}},
		{".....0", [][]int{{0}, {math.MaxInt}}}, {".....0", [][]int{{math.MinInt}, {0}}}, {".....0", [][]int{{1 << 32}}}, {".....0", [][]int{{0, 1 << 32}}},
		// Groups that do not increase, or have a person in common.
		{".....0", [][]int{{1}, {0}}}, {".....0", [][]int{{2, 3}, {0, 1}}}, {".....0", [][]int{{1}, {0, 2}}}, {"x....1", [][]int{{1}, {0}}}, {".x...1", [][]int{{2, 3}, {1}}},
		{".....0", [][]int{{0}, {0}}}, {".....0", [][]int{{0, 1}, {0, 1}}}, {".....0", [][]int{{0, 1}, {0, 2}}}, {".....0", [][]int{{0, 1}, {1}}}, {".....0", [][]int{{0, 1}, {1, 2}}}, {".....0", [][]int{{0}, {0, 1}}},
		// People on the two sides.
		{"x....1", [][]int{{0, 1}}}, {"x....0", [][]int{{0, 1}}}, {"x....2", [][]int{{0, 1}}}, {"x.x..1", [][]int{{0, 2}, {1, 3}, {4}}}, {"x.x..1", [][]int{{0, 1}, {3}}}, {"x.x..1", [][]int{{0}, {1, 2}}},
		// Not so many torches there.
		{".....2", [][]int{{0}}}, {"xxxxx0", [][]int{{0}}}, {"x....0", [][]int{{0}}}, {"x....2", [][]int{{1}}}, {"x....2", [][]int{{0}, {1}}}, {"x....0", [][]int{{0}, {1}}},
		{".....1", [][]int{{0}, {1}}}, {"xxxxx1", [][]int{{0}, {1}}}, {"xx...1", [][]int{{0}, {1}}}, {"xx...1", [][]int{{2}, {3, 4}}}, {"xx...0", [][]int{{0}, {1}}}, {"xx...2", [][]int{{2}, {3}}},
	} {
		c := campOf(k.camp)
		if isRound(n, c, k.lists) {
			t.Errorf("%v is a round in %s", k.lists, k.camp)
		}
		checkLists(t, n, c, k.lists)
		if is, ok := impl.IsNightPlan(n, [][][]int{k.lists}); is || !ok {
			t.Errorf("IsNightPlan(%v, %v) = %v, %v", n, k.lists, is, ok)
		}
		if time, ok := impl.NightTime(n, [][][]int{k.lists}); time != 0 || ok {
			t.Errorf("NightTime(%v, %v) = %v, %v", n, k.lists, time, ok)
		}
	}
	// With one torch there are no rounds of two groups, and with one seat no groups of two.
	for _, k := range []struct {
		night, camp string
		lists       [][]int
	}{
		{"1*2:1,2,5", "...0", [][]int{{0}, {1}}}, {"1*2:1,2,5", "x..1", [][]int{{0}, {1}}}, {"1*3:1,2,5", "...0", [][]int{{0, 1}, {2}}},
		{"1*1:1,2,5", "...0", [][]int{{0, 1}}}, {"2*1:1,2,5", "...0", [][]int{{0, 1}}}, {"2*1:1,2,5", "...0", [][]int{{0}, {1, 2}}}, {"2*3:1,2,5,10", "....0", [][]int{{0, 1, 2, 3}}},
	} {
		if can, ok := impl.CanRound(night(t, k.night), campOf(k.camp), k.lists); can || !ok {
			t.Error(k, can, ok)
		}
		checkLists(t, night(t, k.night), campOf(k.camp), k.lists)
	}
}

func TestRoundTime(t *testing.T) {
	for _, k := range []struct {
		night string
		lists [][]int
		time  int
	}{
		{"2*2:1,2,5,10", [][]int{{0}}, 1}, {"2*2:1,2,5,10", [][]int{{3}}, 10}, {"2*2:1,2,5,10", [][]int{{0, 1}, {2, 3}}, 10}, {"2*2:1,2,5,10", [][]int{{0, 2}, {1}}, 5},
		{"2*2:10,5,2,1", [][]int{{0, 2}, {1}}, 10}, {"2*2:10,5,2,1", [][]int{{2}, {3}}, 2}, {"1*2:1,2,5,10", [][]int{{1, 2}}, 5}, {"1*1:1000", [][]int{{0}}, 1000},
		{"2*3:1,2,5,10,20,1000", [][]int{{0, 1, 2}, {3, 4, 5}}, 1000}, {"2*3:1000,2,5,10,20,1", [][]int{{0, 1, 2}, {3, 4, 5}}, 1000}, {"2*3:1,2,5,10,20,1000", [][]int{{0, 1, 2}, {3, 4}}, 20},
		// It knows no camp, and nothing is said of the order of the lists.
		{"2*2:1,2,5,10", [][]int{{2, 3}, {0, 1}}, 10}, {"2*2:1,2,5,10", [][]int{{1}, {0}}, 2}, {"2*2:1,2,5,10", [][]int{{1}, {0, 2}}, 5},
	} {
		n := night(t, k.night)
		if time, ok := impl.RoundTime(n, k.lists); time != k.time || !ok {
			t.Errorf("RoundTime(%s, %v) = %v, %v", k.night, k.lists, time, ok)
		}
		checkRoundTime(t, n, k.lists)
	}
	for _, k := range []struct {
		night string
		lists [][]int
	}{
		{"1*2:1,2,5,10", [][]int{{0}, {1}}}, {"2*2:1,2,5,10", [][]int{{0}, {1}, {2}}}, {"2*1:1,2,5,10", [][]int{{0, 1}}}, {"2*2:1,2,5,10", [][]int{{0, 1, 2}}},
		{"2*2:1,2,5,10", nil}, {"2*2:1,2,5,10", [][]int{}}, {"2*2:1,2,5,10", [][]int{nil}}, {"2*2:1,2,5,10", [][]int{{0}, {}}}, {"2*2:1,2,5,10", [][]int{{1, 0}}}, {"2*2:1,2,5,10", [][]int{{0, 0}}},
		{"2*2:1,2,5,10", [][]int{{0}, {0}}}, {"2*2:1,2,5,10", [][]int{{0, 1}, {1, 2}}}, {"2*2:1,2,5,10", [][]int{{4}}}, {"2*2:1,2,5,10", [][]int{{-1}}}, {"2*2:1,2,5,10", [][]int{{0}, {math.MaxInt}}},
	} {
		if time, ok := impl.RoundTime(night(t, k.night), k.lists); time != 0 || ok {
			t.Errorf("RoundTime(%s, %v) = %v, %v", k.night, k.lists, time, ok)
		}
	}
	for _, n := range badNights() {
		for _, lists := range [][][]int{nil, {{0}}, {{0}, {1}}} {
			if time, ok := impl.RoundTime(n, lists); time != 0 || ok {
				t.Errorf("RoundTime(%v, %v) = %v, %v", n, lists, time, ok)
			}
		}
	}
}
