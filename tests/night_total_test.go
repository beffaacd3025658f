package tests

import (
	"math"
	"reflect"
	"slices"
	"testing"

	"loop.example/g01272/impl"
)

// goByNight calls the functions of chapter 8 that are told more than a night, and those that search nothing.
func goByNight(n impl.Night, c impl.Camp, rounds [][][]int, text string) []result {
	var round [][]int
	if len(rounds) > 0 {
		round = rounds[0]
	}
	var all []result
	add := func(name string, value any, ok bool) { all = append(all, got(name, ok, value)) }
	add("IsNight", impl.IsNight(n), true)
	add("IsCamp", impl.IsCamp(n, c), true)
	first, ok := impl.FirstCamp(n)
	add("FirstCamp", first, ok)
	list, ok := impl.RoundsOfNight(n, c)
	add("RoundsOfNight", list, ok)
	can, ok := impl.CanRound(n, c, round)
	add("CanRound", can, ok)
	there, ok := impl.RoundAfter(n, c, round)
	add("RoundAfter", there, ok)
	end, ok := impl.RoundsAfter(n, c, rounds)
	add("RoundsAfter", end, ok)
	time, ok := impl.RoundTime(n, round)
	add("RoundTime", time, ok)
	sum, ok := impl.NightTime(n, rounds)
	add("NightTime", sum, ok)
	isPlan, ok := impl.IsNightPlan(n, rounds)
	add("IsNightPlan", isPlan, ok)
	written, ok := impl.NightText(n)
	add("NightText", written, ok)
	parsed, ok := impl.ParseNight(text)
	add("ParseNight", parsed, ok)
	return all
}

// searchNight calls the other functions of chapter 8, which search plans.
func searchNight(n impl.Night, c impl.Camp) []result {
	var all []result
	add := func(name string, value any, ok bool) { all = append(all, got(name, ok, value)) }
	least, ok := impl.LeastNight(n)
	add("LeastNight", least, ok)
	plan, ok := impl.FirstNight(n)
	add("FirstNight", plan, ok)
	fewest, ok := impl.FewestRounds(n)
	add("FewestRounds", fewest, ok)
	left, ok := impl.TimeFromCamp(n, c)
	add("TimeFromCamp", left, ok)
	reached, ok := impl.CountCampsReached(n)
	add("CountCampsReached", reached, ok)
	gain, ok := impl.TorchGain(n)
	add("TorchGain", gain, ok)
	return all
}

// callNights calls all functions of chapter 8 with the same arguments.
func callNights(n impl.Night, c impl.Camp, rounds [][][]int, text string) []result {
	return append(goByNight(n, c, rounds, text), searchNight(n, c)...)
}

func TestNightsThatAreNone(t *testing.T) {
	for _, n := range badNights() {
		for _, c := range []impl.Camp{{}, campOf(".0"), campOf("...0"), campOf("xxx2"), campOf(".......0"), {Over: make([]bool, len(n.Times))}} {
			for _, rounds := range [][][][]int{nil, {{{0}}}, {{{0}, {1, 2}}}} {
				for _, r := range callNights(n, c, rounds, "") {
					if r.name == "IsNight" || r.name == "IsCamp" {
						r.ok = false
					}
					checkFails(t, []any{n, c, rounds}, r)
				}
			}
		}
	}
}

func TestCampsThatAreNone(t *testing.T) {
	n := night(t, "2*2:1,2,5,10")
	told := []string{"RoundsOfNight", "CanRound", "RoundAfter", "RoundsAfter", "TimeFromCamp"}
	for _, c := range badCamps() {
		for _, r := range callNights(n, c, [][][]int{{{0, 1}, {2, 3}}}, "1*1:1") {
			if slices.Contains(told, r.name) {
				checkFails(t, c, r)
			} else if !r.ok {
				t.Errorf("%s, which is told no camp, fails with %v", r.name, c)
			}
		}
		for _, r := range goByNight(n, c, nil, "") {
			if slices.Contains(told, r.name) {
				checkFails(t, c, r)
			}
		}
	}
	// A camp of two torches is none of a night of one.
	for _, r := range callNights(night(t, "1*2:1,2,5,10"), campOf("xxxx2"), [][][]int{{{0}}}, "1*1:1") {
		if slices.Contains(told, r.name) {
			checkFails(t, "two torches", r)
		}
	}
}

// Without a plan these fail, and the others answer all the same.
func TestNightsWithoutPlan(t *testing.T) {
	for _, text := range []string{"1*1:3,4", "2*1:3,4,5", "1*1:1,1,1,1,1,1", "2*1:1000,1000,1000,1000,1000,1000"} {
		n := night(t, text)
		c, _ := impl.FirstCamp(n)
		for _, r := range callNights(n, c, [][][]int{{{0}}}, text) {
			switch r.name {
			case "LeastNight", "FirstNight", "FewestRounds", "TimeFromCamp", "TorchGain", "NightTime":
				checkFails(t, text, r)
			default:
				if !r.ok {
					t.Error(text, r)
				}
			}
		}
	}
	// One torch alone has no plan, and then nothing is gained.
	if gain, ok := impl.TorchGain(night(t, "2*1:3,4")); gain != 0 || ok {
		t.Error(gain, ok)
	}
}

// Promise 11: a call that fails returns zero values, whatever the arguments are, and no call panics.
func TestNightsAcceptAllArguments(t *testing.T) {
	rounds := [][][][]int{
		nil, {}, {nil}, {{}}, {{nil}}, {{{}}}, {{{0}}}, {{{0}, {1}}}, {{{1}, {0}}}, {{{0, 1}, {2, 3}}}, {{{0}}, {{0}}, nil}, {{{-1}}}, {{{math.MinInt, math.MaxInt}}}, {{{math.MaxInt}, {math.MinInt}}},
		{{{0, 1, 2, 3, 4, 5}}}, {{{0, 1, 2, 3, 4, 5, 6, 7, 8}}}, {{{1, 0}}}, {{{1, 1}}}, {{{5}}}, {{{6}}}, {{{7}}}, {{{8}}}, {{{1 << 62}}}, {{{0}, {1}, {2}}},
		toAndAgain(0, 29), toAndAgain(0, 30), toAndAgain(0, 31), make([][][]int, 30), make([][][]int, 31), make([][][]int, 1000), {make([][]int, 1000)}, {{make([]int, 1000)}},
	}
	texts := []string{"", "*", "1*", ":", "2*2:1,2,5,10", "1*1:1rr", "\xff\x00", "****::::,,,,", "99999999999999999999*1:1"}
	for i, n := range slices.Concat(badNights(), nightsOf(1, 1), nightsOf(2, 2), nightsWith([]int{1, 2, 5, 10}), nightsWith([]int{3, 1, 4, 1, 5}), nightsWith([]int{3, 1, 4, 1, 5, 9})) {
		camps := badCamps()
		for people := range impl.MaxNight + 2 {
			for _, torches := range []int{math.MinInt, -1, 0, 1, 2, 3, math.MaxInt} {
				camps = append(camps, impl.Camp{Over: make([]bool, people), Torches: torches}, impl.Camp{Over: slices.Repeat([]bool{true}, people), Torches: torches})
			}
		}
		for j, c := range camps {
			for _, k := range []int{i + j, i + j + len(rounds)/2} {
				for _, r := range goByNight(n, c, rounds[k%len(rounds)], texts[k%len(texts)]) {
					if !r.ok {
						checkFails(t, []any{n, c, rounds[k%len(rounds)]}, r)
					}
				}
			}
		}
		for _, c := range camps[:5] {
			for _, r := range searchNight(n, c) {
				if !r.ok {
					checkFails(t, []any{n, c}, r)
				}
			}
		}
	}
}

// Promise 11: arguments are not modified, neither by a call nor by what is done to its results, and spare capacity is neither read nor written.
func TestNightsModifyNoArguments(t *testing.T) {
	for _, k := range []struct {
		night, camp string
		rounds      [][][]int
	}{
		{"1*1:7", ".0", toAndAgain(0, 3)},
		{"2*1:3,4", "..0", [][][]int{{{0}, {1}}}},
		{"1*1:3,4", "x.1", nil},
		{"2*2:1,2,5,10", "....0", [][][]int{{{0, 1}, {2, 3}}}},
		{"2*2:10,5,2,1", "....0", [][][]int{{{0, 3}}, {{3}}, {{1, 2}, {3}}}},
		{"2*2:10,5,2,1", "x.x.1", [][][]int{{{0, 2}, {1, 3}}, {{0}}}},
		{"2*2:10,5,2,1", "xxxx2", [][][]int{{{0, 1}, {2, 3}}, {{2, 3}, {0, 1}}}},
		{"2*3:6,5,4,3,2,1", "......0", [][][]int{{{0, 1, 2}, {3, 4, 5}}, {{0}}, {{0}}}},
		{"1*3:6,5,4,3,2,1", ".x.x.x1", [][][]int{{{1, 3, 5}}, {{0}}, nil}},
	} {
		plain := callNights(night(t, k.night), campOf(k.camp), k.rounds, k.night)
		for _, fill := range []bool{false, true} {
			mine, there := night(t, k.night), campOf(k.camp)
			w := makeSpare(impl.Party{Times: mine.Times}, impl.State{}, nil)
			w.rows, w.rounds = spare(there.Over, fill), spareRounds(k.rounds)
			n, c := impl.Night{Times: w.p.Times, Seats: mine.Seats, Torches: mine.Torches}, impl.Camp{Over: w.rows, Torches: there.Torches}
			checkArgumentsStay(t, k, w, plain, func() []result { return callNights(n, c, w.rounds, k.night) })
		}
	}
}

// checkRoundsApart checks that no two lists of rounds share memory, and that no round has that of another one in its spare capacity.
func checkRoundsApart(t *testing.T, rounds [][][]int) {
	t.Helper()
	if len(rounds) == 0 {
		t.Fatal("there are no rounds")
	}
	checkApart(t, slices.Concat(rounds...))
	for i, round := range rounds {
		for j := range round {
			round[j] = []int{i}
		}
	}
	for _, round := range rounds {
		clear(round[len(round):cap(round)])
	}
	for i, round := range rounds {
		for _, list := range round {
			if !slices.Equal(list, []int{i}) {
				t.Fatalf("the round %d shares memory with another one: %v", i, round)
			}
		}
	}
}

func TestRoundsShareNoMemory(t *testing.T) {
	n := night(t, "2*3:1,2,3,4,5,6")
	rounds, _ := impl.RoundsOfNight(n, campOf("......0"))
	checkRoundsApart(t, rounds)
	plan, _ := impl.FirstNight(night(t, "2*2:1,2,50,60,70,80"))
	checkRoundsApart(t, plan)
	// Where no rounds are gone, the camp is new memory all the same.
	c := campOf("x.x.x.1")
	same, ok := impl.RoundsAfter(n, c, nil)
	if !ok || campText(same) != "x.x.x.1" || &same.Over[0] == &c.Over[0] {
		t.Error(same, ok)
	}
	one, _ := impl.FirstCamp(n)
	two, _ := impl.FirstCamp(n)
	scribble(one)
	if campText(two) != "......0" {
		t.Error(two)
	}
}

// What depends on no order in which a map is gone through is the same each time.
func TestNightsAreTheSameEachTime(t *testing.T) {
	for _, n := range slices.Concat(nightsWith([]int{3, 1, 4, 1}), nightsWith([]int{5, 5, 5, 5, 5}), nightsWith([]int{1, 2, 50, 60, 70, 80}), nightsWith([]int{7, 7, 7, 7, 7, 7})) {
		c, _ := impl.FirstCamp(n)
		once := callNights(n, c, [][][]int{{{0}}}, "")
		for range 2 {
			if again := callNights(n, c, [][][]int{{{0}}}, ""); !reflect.DeepEqual(once, again) {
				t.Fatalf("%v: %v, and then %v", n, once, again)
			}
		}
	}
}
