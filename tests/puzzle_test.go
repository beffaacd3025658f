package tests

import (
	"math"
	"slices"
	"testing"

	"loop.example/g01272/impl"
)

// puzzle parses a puzzle.
func puzzle(t *testing.T, text string) impl.Puzzle {
	t.Helper()
	p, ok := impl.ParsePuzzle(text)
	if !ok {
		t.Fatalf("%q is no puzzle", text)
	}
	return p
}

func clue(kind, a, b int) impl.Clue { return impl.Clue{Kind: kind, A: a, B: b} }

func isZeroPuzzle(p impl.Puzzle) bool { return p.People == 0 && len(p.Clues) == 0 }

func samePuzzle(a, b impl.Puzzle) bool { return a.People == b.People && slices.Equal(a.Clues, b.Clues) }

// isHidden tells by looking at each time whether a list are hidden times.
func isHidden(times []int) bool {
	for k, time := range times {
		if time < 1 || time > 6 || k > 0 && times[k-1] > time {
			return false
		}
	}
	return len(times) == 1 || len(times) == 2 || len(times) == 3 || len(times) == 4
}

// hiddenTimes are all hidden times of so many people, in order.
func hiddenTimes(people int) [][]int {
	return slices.DeleteFunc(allTimes(people, 6), func(times []int) bool { return !slices.IsSorted(times) })
}

// badHidden are lists that are no hidden times.
func badHidden() [][]int {
	return [][]int{
		nil, {}, {0}, {7}, {-1}, {math.MinInt}, {math.MaxInt}, {2, 1}, {0, 1}, {6, 7}, {0, 0}, {7, 7}, {1, 3, 2}, {3, 1, 2}, {0, 1, 2}, {1, 2, 7}, {1, 0, 2},
		{6, 5, 4, 3}, {1, 2, 3, 2}, {2, 1, 3, 4}, {0, 1, 2, 3}, {3, 4, 5, 7}, {1, math.MinInt, 2, 3}, {1, 1, 1, math.MaxInt}, {math.MinInt, 1, 1, math.MaxInt},
		{1, 1, 1, 1, 1}, {1, 2, 3, 4, 5}, {6, 6, 6, 6, 6, 6}, make([]int, 4), make([]int, 5), make([]int, 1000), slices.Repeat([]int{1}, 1000),
	}
}

// cluesOf are all clues of so many people.
func cluesOf(people int) []impl.Clue {
	var all []impl.Clue
	for person := range people {
		for time := 1; time <= 6; time++ {
			all = append(all, clue(0, person, time))
		}
		for more := 0; more <= 5; more++ {
			all = append(all, clue(4, person, more))
		}
	}
	for sum := 1; sum <= 24; sum++ {
		all = append(all, clue(1, sum, 0))
	}
	for time := 1; time <= 100; time++ {
		all = append(all, clue(2, time, 0), clue(3, time, 0))
	}
	for even := 0; even <= people; even++ {
		all = append(all, clue(5, even, 0))
	}
	return all
}

// badClues are no clues of so many people: one number is one below or one above what may be, or far from it.
func badClues(people int) []impl.Clue {
	var bad []impl.Clue
	for _, c := range []impl.Clue{clue(0, 0, 1), clue(1, 1, 0), clue(2, 1, 0), clue(3, 1, 0), clue(4, 0, 0), clue(5, 0, 0)} {
		for _, n := range []int{-1, math.MinInt, math.MaxInt, 101, 1 << 32} {
			bad = append(bad, clue(c.Kind, n, c.B), clue(c.Kind, c.A, n))
		}
		for _, kind := range []int{-1, 6, 7, math.MinInt, math.MaxInt, 1<<32 + c.Kind} {
			bad = append(bad, clue(kind, c.A, c.B))
		}
	}
	return append(bad,
		clue(0, people, 1), clue(0, people+1, 6), clue(0, 0, 0), clue(0, 0, 7), clue(0, people-1, 7), clue(4, people, 0), clue(4, people, 5), clue(4, 0, 6), clue(4, people-1, 6),
		clue(1, 0, 0), clue(1, 25, 0), clue(1, 1, 1), clue(1, 24, 1), clue(2, 0, 0), clue(2, 5, 1), clue(3, 0, 0), clue(3, 5, 1), clue(5, people+1, 0), clue(5, 0, 1), clue(5, people, 1),
	)
}

// doesFit tells by what a clue says whether hidden times of as many people fit it.
func doesFit(c impl.Clue, times []int) bool {
	sum, even := 0, 0
	for _, time := range times {
		sum += time
		if time == 2 || time == 4 || time == 6 {
			even++
		}
	}
	switch c.Kind {
	case 0:
		return times[c.A] == c.B
	case 1:
		return sum == c.A
	case 2:
		return pairTime(times) == c.A
	case 3:
		return escortTime(times) == c.A
	case 4:
		return times[c.A] == times[0]+c.B
	}
	return even == c.A
}

func TestExampleOfChapter9(t *testing.T) {
	p := puzzle(t, "2:1.7.0,2.5.0")
	if !samePuzzle(p, impl.Puzzle{People: 2, Clues: []impl.Clue{clue(1, 7, 0), clue(2, 5, 0)}}) {
		t.Error("puzzle", p)
	}
	if list, ok := impl.Solutions(p); !ok || !sameLists(list, [][]int{{2, 5}}) {
		t.Error("solutions", list, ok)
	}
	if n, ok := impl.CountSolutions(p); n != 1 || !ok {
		t.Error("count", n, ok)
	}
	if times, ok := impl.FirstSolution(p); !ok || !slices.Equal(times, []int{2, 5}) {
		t.Error("first", times, ok)
	}
	if times, ok := impl.SureTimes(p); !ok || !slices.Equal(times, []int{2, 5}) {
		t.Error("sure", times, ok)
	}
	if solved, ok := impl.IsSolved(p); !solved || !ok {
		t.Error("solved", solved, ok)
	}
	if list, ok := impl.LeftByClues(p); !ok || !slices.Equal(list, []int{21, 3, 1}) {
		t.Error("left", list, ok)
	}
	if list, ok := impl.Solutions(puzzle(t, "2:1.7.0")); !ok || !sameLists(list, [][]int{{1, 6}, {2, 5}, {3, 4}}) {
		t.Error("7 together", list, ok)
	}
	// PairTime of two is the greater time.
	for _, times := range hiddenTimes(2) {
		if fit, ok := impl.DoesFit(clue(2, times[1], 0), times); !fit || !ok {
			t.Error(times, fit, ok)
		}
	}
	// That of three is the sum of all times.
	list, ok := impl.Solutions(puzzle(t, "3:2.9.0"))
	if !ok || !sameLists(list, [][]int{{1, 2, 6}, {1, 3, 5}, {1, 4, 4}, {2, 2, 5}, {2, 3, 4}, {3, 3, 3}}) {
		t.Error("three people", list, ok)
	}
}

func TestCountHidden(t *testing.T) {
	for people, want := range []int{0, 6, 21, 56, 126, 0, 0} {
		if n, ok := impl.CountHidden(people); n != want || ok != (want > 0) {
			t.Errorf("CountHidden(%d) = %d, %v", people, n, ok)
		}
		if want > 0 && len(hiddenTimes(people)) != want {
			t.Errorf("%d people: %d hidden times", people, len(hiddenTimes(people)))
		}
	}
	for _, people := range []int{-1, -4, 252, 1 << 32, 1<<32 + 1, math.MinInt, math.MinInt + 1, math.MaxInt} {
		if n, ok := impl.CountHidden(people); n != 0 || ok {
			t.Errorf("CountHidden(%d) = %d, %v", people, n, ok)
		}
	}
}

// All lists of at most six numbers from one below the least time to one above the greatest one.
func TestIsHidden(t *testing.T) {
	lists := badHidden()
	for people := range 7 {
		// The greatest of these times is 8, so that, with 1 less, they are 0..7.
		for _, times := range allTimes(people, 8) {
			if people > 4 && (times[0] > 3 || times[1] > 3) {
				continue
			}
			for k := range times {
				times[k]--
			}
			lists = append(lists, times)
		}
	}
	for _, times := range lists {
		if is := impl.IsHidden(times); is != isHidden(times) {
			t.Fatalf("IsHidden(%v) = %v", times, is)
		}
	}
	for _, times := range badHidden() {
		if impl.IsHidden(times) {
			t.Errorf("%v are hidden times", times)
		}
	}
}

// checkClues checks IsClue of all clues with some numbers, of so many people.
func checkClues(t *testing.T, people int, numbers []int) {
	t.Helper()
	are := map[impl.Clue]bool{}
	if people >= 1 && people <= 4 {
		for _, c := range cluesOf(people) {
			are[c] = true
		}
	}
	found := 0
	for _, kind := range []int{math.MinInt, -2, -1, 0, 1, 2, 3, 4, 5, 6, 7, math.MaxInt} {
		for _, a := range numbers {
			for _, b := range numbers {
				c := clue(kind, a, b)
				is := impl.IsClue(people, c)
				if is != are[c] {
					t.Fatalf("IsClue(%d, %v) = %v", people, c, is)
				}
				if is {
					found++
				}
				// A puzzle is one with it just then.
				if alone := impl.IsPuzzle(impl.Puzzle{People: people, Clues: []impl.Clue{c}}); alone != is {
					t.Fatalf("%d people: IsPuzzle with %v alone is %v", people, c, alone)
				}
			}
		}
	}
	if found != len(are) {
		t.Fatalf("%d people have %d clues, not %d", people, found, len(are))
	}
}

func TestIsClue(t *testing.T) {
	numbers := []int{math.MinInt, math.MaxInt}
	for n := -2; n < 104; n++ {
		numbers = append(numbers, n)
	}
	for _, people := range []int{math.MinInt, -1, 0, 1, 2, 3, 4, 5, 6, math.MaxInt} {
		checkClues(t, people, numbers)
	}
	for people := 1; people <= 4; people++ {
		for _, c := range badClues(people) {
			if impl.IsClue(people, c) {
				t.Errorf("%v is a clue of %d people", c, people)
			}
		}
	}
}

// The least and the greatest A and B of each kind, for each number of people, and those next to them.
func TestLimitsOfClues(t *testing.T) {
	for people := 1; people <= impl.MaxHidden; people++ {
		for kind, span := range [][4]int{{0, people - 1, 1, 6}, {1, 24, 0, 0}, {1, 100, 0, 0}, {1, 100, 0, 0}, {0, people - 1, 0, 5}, {0, people, 0, 0}} {
			for _, a := range []int{span[0] - 1, span[0], span[1], span[1] + 1} {
				for _, b := range []int{span[2] - 1, span[2], span[3], span[3] + 1} {
					want := a >= span[0] && a <= span[1] && b >= span[2] && b <= span[3]
					if is := impl.IsClue(people, clue(kind, a, b)); is != want {
						t.Errorf("IsClue(%d, %d.%d.%d) = %v", people, kind, a, b, is)
					}
				}
			}
		}
	}
}

// All hidden times are held against all clues of as many people.
func TestDoesFit(t *testing.T) {
	for people := 1; people <= impl.MaxHidden; people++ {
		fits := map[impl.Clue]int{}
		for _, times := range hiddenTimes(people) {
			kinds := map[int]int{}
			for _, c := range cluesOf(people) {
				fit, ok := impl.DoesFit(c, times)
				if !ok || fit != doesFit(c, times) {
					t.Fatalf("DoesFit(%v, %v) = %v, %v", c, times, fit, ok)
				}
				if fit {
					fits[c]++
					kinds[c.Kind]++
				}
			}
			// Of the kinds 0 and 4 they fit one clue about each person, of the others one clue.
			for kind := range 6 {
				want := 1
				if kind == 0 || kind == 4 {
					want = people
				}
				if kinds[kind] != want {
					t.Fatalf("%v fit %d clues of the kind %d", times, kinds[kind], kind)
				}
			}
		}
		// All hidden times fit that the person 0 needs 0 more than itself.
		if fits[clue(4, 0, 0)] != len(hiddenTimes(people)) {
			t.Error(people, fits)
		}
	}
}

func TestClues(t *testing.T) {
	for _, k := range []struct {
		c     impl.Clue
		times []int
		want  bool
	}{
		{clue(0, 0, 2), []int{2, 5}, true},
		{clue(0, 1, 5), []int{2, 5}, true},
		{clue(0, 1, 2), []int{2, 5}, false},
		{clue(0, 0, 5), []int{2, 5}, false},
		{clue(0, 3, 6), []int{1, 2, 5, 6}, true},
		{clue(1, 14, 0), []int{1, 2, 5, 6}, true},
		{clue(1, 13, 0), []int{1, 2, 5, 6}, false},
		{clue(1, 24, 0), []int{6, 6, 6, 6}, true},
		{clue(1, 1, 0), []int{1}, true},
		{clue(1, 24, 0), []int{6}, false},
		// A fetch: 2 and 1, 6, 2, and 2 behind.
		{clue(2, 13, 0), []int{1, 2, 5, 6}, true},
		{clue(2, 15, 0), []int{1, 2, 5, 6}, false},
		// Escorts: 6 and 1, 5 and 1, and 2 behind.
		{clue(3, 15, 0), []int{1, 2, 5, 6}, true},
		{clue(3, 13, 0), []int{1, 2, 5, 6}, false},
		// An escort is taken here: twice 4 is no less than 1 and 5.
		{clue(2, 17, 0), []int{1, 4, 5, 6}, true},
		{clue(3, 17, 0), []int{1, 4, 5, 6}, true},
		// A fetch needs as much time as an escort here: twice 3 is 1 and 5 together.
		{clue(2, 16, 0), []int{1, 3, 5, 6}, true},
		{clue(3, 16, 0), []int{1, 3, 5, 6}, true},
		{clue(3, 15, 0), []int{1, 3, 5, 6}, false},
		{clue(2, 30, 0), []int{6, 6, 6, 6}, true},
		{clue(2, 5, 0), []int{1, 1, 1, 1}, true},
		{clue(2, 9, 0), []int{1, 2, 6}, true},
		{clue(2, 5, 0), []int{2, 5}, true},
		{clue(2, 7, 0), []int{2, 5}, false},
		{clue(2, 3, 0), []int{3}, true},
		{clue(2, 100, 0), []int{6, 6, 6, 6}, false},
		{clue(4, 1, 3), []int{2, 5}, true},
		{clue(4, 0, 0), []int{2, 5}, true},
		{clue(4, 0, 3), []int{2, 5}, false},
		{clue(4, 1, 0), []int{2, 5}, false},
		{clue(4, 3, 5), []int{1, 2, 5, 6}, true},
		{clue(4, 2, 3), []int{1, 2, 5, 6}, false},
		{clue(5, 0, 0), []int{1, 3, 5, 5}, true},
		{clue(5, 2, 0), []int{1, 2, 5, 6}, true},
		{clue(5, 4, 0), []int{2, 2, 4, 6}, true},
		{clue(5, 3, 0), []int{2, 2, 4, 6}, false},
		{clue(5, 0, 0), []int{2}, false},
	} {
		if fit, ok := impl.DoesFit(k.c, k.times); fit != k.want || !ok {
			t.Errorf("DoesFit(%v, %v) = %v, %v", k.c, k.times, fit, ok)
		}
	}
}

func TestDoesFitOfNoClueOrNoHiddenTimes(t *testing.T) {
	for people := 1; people <= impl.MaxHidden; people++ {
		for _, times := range [][]int{slices.Repeat([]int{1}, people), slices.Repeat([]int{6}, people), []int{1, 2, 3, 6}[:people]} {
			for _, c := range badClues(people) {
				if fit, ok := impl.DoesFit(c, times); fit || ok {
					t.Errorf("DoesFit(%v, %v) = %v, %v", c, times, fit, ok)
				}
			}
			// A clue of more people.
			for more := people + 1; more <= impl.MaxHidden; more++ {
				for _, c := range []impl.Clue{clue(0, more-1, times[0]), clue(4, more-1, 0), clue(5, more, 0)} {
					if fit, ok := impl.DoesFit(c, times); fit || ok || !impl.IsClue(more, c) {
						t.Errorf("DoesFit(%v, %v) = %v, %v", c, times, fit, ok)
					}
				}
			}
		}
	}
	for _, times := range badHidden() {
		for _, c := range append(cluesOf(4), clue(0, 4, 1), clue(5, 5, 0), clue(6, 0, 0), clue(-1, 0, 0)) {
			if fit, ok := impl.DoesFit(c, times); fit || ok {
				t.Errorf("DoesFit(%v, %v) = %v, %v", c, times, fit, ok)
			}
		}
	}
}
