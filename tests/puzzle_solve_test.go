package tests

import (
	"math"
	"slices"
	"testing"

	"loop.example/g01272/impl"
)

// fitsAll reports whether hidden times fit all of some clues of as many people.
func fitsAll(clues []impl.Clue, times []int) bool {
	return !slices.ContainsFunc(clues, func(c impl.Clue) bool { return !doesFit(c, times) })
}

// solutionsBy are the hidden times of so many people, found by going through all, that fit all of some clues.
func solutionsBy(people int, clues []impl.Clue) [][]int {
	return slices.DeleteFunc(hiddenTimes(people), func(times []int) bool { return !fitsAll(clues, times) })
}

// cluesWithout are the clues without the one with an index.
func cluesWithout(clues []impl.Clue, k int) []impl.Clue {
	return slices.Delete(slices.Clone(clues), k, k+1)
}

// dice choose numbers that follow no plain rule, the same ones in each run.
type dice uint32

func (d *dice) below(n int) int {
	*d = *d*1664525 + 1013904223
	return int(*d>>8) % n
}

// fittingClues are all clues of so many people that some hidden times fit.
func fittingClues(people int) []impl.Clue {
	return slices.DeleteFunc(cluesOf(people), func(c impl.Clue) bool {
		return !slices.ContainsFunc(hiddenTimes(people), func(times []int) bool { return doesFit(c, times) })
	})
}

// cluesAbout are clues that hidden times fit.
func cluesAbout(times []int) []impl.Clue {
	return slices.DeleteFunc(cluesOf(len(times)), func(c impl.Clue) bool { return !doesFit(c, times) })
}

// pairPuzzles are puzzles of so many people without clues, with one, and, one of each so many, with two.
func pairPuzzles(people, each int) []impl.Puzzle {
	puzzles := []impl.Puzzle{{People: people}}
	for _, c := range cluesOf(people) {
		puzzles = append(puzzles, impl.Puzzle{People: people, Clues: []impl.Clue{c}})
	}
	clues := append(fittingClues(people), clue(1, 24, 0), clue(3, 100, 0))
	n := 0
	for _, c := range clues {
		for _, d := range clues {
			if n++; n%each == 0 {
				puzzles = append(puzzles, impl.Puzzle{People: people, Clues: []impl.Clue{c, d}})
			}
		}
	}
	return puzzles
}

// chosenPuzzles are so many puzzles of so many people with up to MaxClues clues. Of the clues most are fit by the same times, but perhaps not all.
func chosenPuzzles(people, count int) []impl.Puzzle {
	d := dice(people)
	hidden, all := hiddenTimes(people), cluesOf(people)
	var puzzles []impl.Puzzle
	for n := range count {
		about := cluesAbout(hidden[d.below(len(hidden))])
		p := impl.Puzzle{People: people}
		for range d.below(impl.MaxClues) + 1 {
			c := about[d.below(len(about))]
			if n%4 == 0 && d.below(4) == 0 {
				c = all[d.below(len(all))]
			}
			p.Clues = append(p.Clues, c)
		}
		puzzles = append(puzzles, p)
	}
	return puzzles
}

// checkSolutions checks what is told of the solutions of a puzzle, and returns them.
func checkSolutions(t *testing.T, p impl.Puzzle) [][]int {
	t.Helper()
	want := solutionsBy(p.People, p.Clues)
	list, ok := impl.Solutions(p)
	if !ok || !sameLists(list, want) {
		t.Fatalf("Solutions(%v) = %v, %v, not %v", p, list, ok, want)
	}
	for _, times := range list {
		if !impl.IsHidden(times) || len(times) != p.People {
			t.Fatalf("%v: %v are no hidden times", p, times)
		}
	}
	// Promise 9: solutions fit all clues, and no other hidden times do.
	for _, times := range hiddenTimes(p.People) {
		all := true
		for _, c := range p.Clues {
			fit, ok := impl.DoesFit(c, times)
			if !ok {
				t.Fatalf("DoesFit(%v, %v) fails", c, times)
			}
			all = all && fit
		}
		if isOne := slices.ContainsFunc(list, func(l []int) bool { return slices.Equal(l, times) }); isOne != all {
			t.Fatalf("%v: %v, which fit all: %v, are a solution: %v", p, times, all, isOne)
		}
	}
	if n, ok := impl.CountSolutions(p); n != len(want) || !ok {
		t.Fatalf("CountSolutions(%v) = %d, %v", p, n, ok)
	}
	if solved, ok := impl.IsSolved(p); solved != (len(want) == 1) || !ok {
		t.Fatalf("IsSolved(%v) = %v, %v", p, solved, ok)
	}
	return list
}

// checkSure checks FirstSolution and SureTimes of a puzzle with these solutions.
func checkSure(t *testing.T, p impl.Puzzle, solutions [][]int) {
	t.Helper()
	first, ok := impl.FirstSolution(p)
	sure, fine := impl.SureTimes(p)
	if len(solutions) == 0 {
		if ok || fine || len(first) != 0 || len(sure) != 0 {
			t.Fatalf("%v has no solution, but the first one %v, %v, and sure times %v, %v", p, first, ok, sure, fine)
		}
		return
	}
	if !ok || !slices.Equal(first, solutions[0]) {
		t.Fatalf("FirstSolution(%v) = %v, %v", p, first, ok)
	}
	if !fine || len(sure) != p.People {
		t.Fatalf("SureTimes(%v) = %v, %v", p, sure, fine)
	}
	for k := range p.People {
		needed := map[int]bool{}
		for _, times := range solutions {
			needed[times[k]] = true
		}
		if isSure := sure[k] != 0; isSure != (len(needed) == 1) || isSure && !needed[sure[k]] {
			t.Fatalf("SureTimes(%v) = %v, but %d needs %v", p, sure, k, needed)
		}
	}
}

// checkCounts checks what is told of the clues of a puzzle by counts of solutions.
func checkCounts(t *testing.T, p impl.Puzzle) {
	t.Helper()
	needless, ok := impl.NeedlessClues(p)
	if !ok || !slices.IsSorted(needless) || len(slices.Compact(slices.Clone(needless))) != len(needless) {
		t.Fatalf("NeedlessClues(%v) = %v, %v", p, needless, ok)
	}
	left, ok := impl.LeftByClues(p)
	if !ok || len(left) != len(p.Clues)+1 {
		t.Fatalf("LeftByClues(%v) = %v, %v", p, left, ok)
	}
	var alone []int
	for k := range len(p.Clues) + 1 {
		if n := len(solutionsBy(p.People, p.Clues[:k])); left[k] != n {
			t.Fatalf("LeftByClues(%v) = %v, but %d is %d", p, left, k, n)
		}
		if n, ok := impl.CountSolutions(impl.Puzzle{People: p.People, Clues: p.Clues[:k]}); left[k] != n || !ok {
			t.Fatalf("LeftByClues(%v) = %v, but %d is %d, %v", p, left, k, n, ok)
		}
		if k == len(p.Clues) {
			break
		}
		isNeedless := len(solutionsBy(p.People, cluesWithout(p.Clues, k))) == len(solutionsBy(p.People, p.Clues))
		if is := slices.Contains(needless, k); is != isNeedless {
			t.Fatalf("NeedlessClues(%v) = %v, but %d: %v", p, needless, k, isNeedless)
		}
		alone = append(alone, len(solutionsBy(p.People, p.Clues[k:k+1])))
	}
	best, ok := impl.BestClue(p)
	if ok != (len(p.Clues) > 0) || !ok && best != 0 {
		t.Fatalf("BestClue(%v) = %d, %v", p, best, ok)
	}
	if ok && (best < 0 || best >= len(alone) || alone[best] != slices.Min(alone) || slices.Contains(alone[:best], alone[best])) {
		t.Fatalf("BestClue(%v) = %d of %v", p, best, alone)
	}
}

// harder are the clues that are left of those of a puzzle that is solved, if each of the first ones that is not needed then is crossed out.
func harder(p impl.Puzzle) []impl.Clue {
	crossed := make([]bool, len(p.Clues))
	left := func() []impl.Clue {
		var clues []impl.Clue
		for k, c := range p.Clues {
			if !crossed[k] {
				clues = append(clues, c)
			}
		}
		return clues
	}
	for k := range p.Clues {
		crossed[k] = true
		crossed[k] = len(solutionsBy(p.People, left())) == 1
	}
	return left()
}

// checkHarder checks HarderPuzzle of a puzzle with these solutions.
func checkHarder(t *testing.T, p impl.Puzzle, solutions [][]int) {
	t.Helper()
	hard, ok := impl.HarderPuzzle(p)
	if len(solutions) != 1 {
		if ok || !isZeroPuzzle(hard) {
			t.Fatalf("HarderPuzzle(%v) = %v, %v", p, hard, ok)
		}
		return
	}
	if !ok || !impl.IsPuzzle(hard) || !samePuzzle(hard, impl.Puzzle{People: p.People, Clues: harder(p)}) {
		t.Fatalf("HarderPuzzle(%v) = %v, %v, not %v", p, hard, ok, harder(p))
	}
	// Promise 9: it is solved by the same times.
	if again, ok := impl.Solutions(hard); !ok || !sameLists(again, solutions) {
		t.Fatalf("%v has the solutions %v, and the harder one %v has %v", p, solutions, hard, again)
	}
	// No clue of it is needless, and it gets no harder.
	if needless, ok := impl.NeedlessClues(hard); !ok || len(needless) != 0 {
		t.Fatalf("HarderPuzzle(%v) = %v, in which %v are needless", p, hard, needless)
	}
	if again, ok := impl.HarderPuzzle(hard); !ok || !samePuzzle(again, hard) {
		t.Fatalf("HarderPuzzle(%v) = %v, %v", hard, again, ok)
	}
}

// checkDrop checks DropClue with an index, which may be any.
func checkDrop(t *testing.T, p impl.Puzzle, k int) {
	t.Helper()
	before := slices.Clone(p.Clues)
	rest, ok := impl.DropClue(p, k)
	if !slices.Equal(before, p.Clues) {
		t.Fatalf("DropClue(%v, %d) changes its clues to %v", before, k, p.Clues)
	}
	if k < 0 || k >= len(p.Clues) {
		if ok || !isZeroPuzzle(rest) {
			t.Fatalf("DropClue(%v, %d) = %v, %v", p, k, rest, ok)
		}
		return
	}
	if !ok || !impl.IsPuzzle(rest) || !samePuzzle(rest, impl.Puzzle{People: p.People, Clues: cluesWithout(p.Clues, k)}) {
		t.Fatalf("DropClue(%v, %d) = %v, %v", p, k, rest, ok)
	}
	n, fine := impl.CountSolutions(p)
	m, ok := impl.CountSolutions(rest)
	needless, told := impl.NeedlessClues(p)
	if !fine || !ok || !told || m < n || slices.Contains(needless, k) != (n == m) {
		t.Fatalf("%v has %d solutions, and %d without the clue %d, but %v are needless", p, n, m, k, needless)
	}
}

// checkAdd checks AddClue of a clue that is one of as many people.
func checkAdd(t *testing.T, p impl.Puzzle, c impl.Clue) {
	t.Helper()
	more, ok := impl.AddClue(p, c)
	if len(p.Clues) == 6 {
		if ok || !isZeroPuzzle(more) {
			t.Fatalf("AddClue(%v, %v) = %v, %v", p, c, more, ok)
		}
		return
	}
	want := impl.Puzzle{People: p.People, Clues: slices.Concat(p.Clues, []impl.Clue{c})}
	if !ok || !impl.IsPuzzle(more) || !samePuzzle(more, want) {
		t.Fatalf("AddClue(%v, %v) = %v, %v", p, c, more, ok)
	}
	if again, ok := impl.DropClue(more, len(p.Clues)); !ok || !samePuzzle(again, p) {
		t.Fatalf("DropClue(%v, %d) = %v, %v", more, len(p.Clues), again, ok)
	}
}

// checkPuzzle checks all that is told of a puzzle.
func checkPuzzle(t *testing.T, p impl.Puzzle) {
	t.Helper()
	if !impl.IsPuzzle(p) {
		t.Fatalf("%v is no puzzle", p)
	}
	solutions := checkSolutions(t, p)
	checkSure(t, p, solutions)
	checkCounts(t, p)
	checkHarder(t, p, solutions)
	for k := -1; k <= len(p.Clues)+1; k++ {
		checkDrop(t, p, k)
	}
	for _, c := range []impl.Clue{clue(0, p.People-1, 6), clue(1, 24, 0), clue(5, p.People, 0)} {
		checkAdd(t, p, c)
	}
	checkText(t, p, puzzleText(p), impl.PuzzleText, impl.ParsePuzzle, samePuzzle)
}

func TestPuzzlesOfTwoClues(t *testing.T) {
	for k, each := range []int{1, 3, 23, 131} {
		for _, p := range pairPuzzles(k+1, each) {
			checkPuzzle(t, p)
		}
	}
}

func TestPuzzlesOfMoreClues(t *testing.T) {
	seen := map[bool]int{}
	for people := 1; people <= impl.MaxHidden; people++ {
		for _, p := range chosenPuzzles(people, 300) {
			checkPuzzle(t, p)
			solved, _ := impl.IsSolved(p)
			seen[solved]++
		}
	}
	if seen[true] < 100 || seen[false] < 100 {
		t.Error("of too few puzzles or too many it is told that they are solved:", seen)
	}
}

// The numbers are worked out by hand.
func TestAnswersToPuzzles(t *testing.T) {
	for _, k := range []struct {
		text     string
		count    int
		first    []int
		sure     []int
		needless []int
		left     []int
		best     int // -1 if there are no clues
		harder   string
	}{
		// No clues.
		{"1:", 6, []int{1}, []int{0}, nil, []int{6}, -1, ""},
		{"2:", 21, []int{1, 1}, []int{0, 0}, nil, []int{21}, -1, ""},
		{"3:", 56, []int{1, 1, 1}, []int{0, 0, 0}, nil, []int{56}, -1, ""},
		{"4:", 126, []int{1, 1, 1, 1}, []int{0, 0, 0, 0}, nil, []int{126}, -1, ""},
		// One clue.
		{"1:0.0.3", 1, []int{3}, []int{3}, nil, []int{6, 1}, 0, "1:0.0.3"},
		{"1:4.0.0", 6, []int{1}, []int{0}, []int{0}, []int{6, 6}, 0, ""},
		{"1:5.1.0", 3, []int{2}, []int{0}, nil, []int{6, 3}, 0, ""},
		{"2:1.2.0", 1, []int{1, 1}, []int{1, 1}, nil, []int{21, 1}, 0, "2:1.2.0"},
		// The other one needs as much or more; nobody needs more than 6.
		{"2:0.0.2", 5, []int{2, 2}, []int{2, 0}, nil, []int{21, 5}, 0, ""},
		{"2:0.0.6", 1, []int{6, 6}, []int{6, 6}, nil, []int{21, 1}, 0, "2:0.0.6"},
		{"4:1.24.0", 1, []int{6, 6, 6, 6}, []int{6, 6, 6, 6}, nil, []int{126, 1}, 0, "4:1.24.0"},
		{"4:0.3.1", 1, []int{1, 1, 1, 1}, []int{1, 1, 1, 1}, nil, []int{126, 1}, 0, "4:0.3.1"},
		{"3:4.2.5", 6, []int{1, 1, 6}, []int{1, 0, 6}, nil, []int{56, 6}, 0, ""},
		{"4:0.0.5,0.3.6", 3, []int{5, 5, 5, 6}, []int{5, 0, 0, 6}, nil, []int{126, 4, 3}, 0, ""},
		// No solutions.
		{"1:1.7.0", 0, nil, nil, nil, []int{6, 0}, 0, ""},
		{"2:0.0.6,0.1.5", 0, nil, nil, nil, []int{21, 1, 0}, 0, ""},
		{"2:0.1.5,0.0.6", 0, nil, nil, nil, []int{21, 5, 0}, 1, ""},
		{"1:1.24.0,1.24.0", 0, nil, nil, []int{0, 1}, []int{6, 0, 0}, 0, ""},
		{"2:2.100.0,3.100.0,1.24.0,1.2.0", 0, nil, nil, []int{0, 1, 2, 3}, []int{21, 0, 0, 0, 0}, 0, ""},
		// The example, and with a clue more: 2 and 5 are the only ones with 2 and PairTime 5.
		{"2:1.7.0,2.5.0", 1, []int{2, 5}, []int{2, 5}, nil, []int{21, 3, 1}, 0, "2:1.7.0,2.5.0"},
		{"2:2.5.0,1.7.0", 1, []int{2, 5}, []int{2, 5}, nil, []int{21, 5, 1}, 1, "2:2.5.0,1.7.0"},
		{"2:1.7.0,2.5.0,0.0.2", 1, []int{2, 5}, []int{2, 5}, []int{0, 1, 2}, []int{21, 3, 1, 1}, 0, "2:2.5.0,0.0.2"},
		{"2:0.0.2,1.7.0,2.5.0", 1, []int{2, 5}, []int{2, 5}, []int{0, 1, 2}, []int{21, 5, 1, 1}, 1, "2:1.7.0,2.5.0"},
		{"2:0.0.2,4.0.0,0.1.5,4.0.0", 1, []int{2, 5}, []int{2, 5}, []int{1, 3}, []int{21, 5, 5, 1, 1}, 0, "2:0.0.2,0.1.5"},
		// The last one of the same clues is left.
		{"1:0.0.3,1.3.0,2.3.0,3.3.0", 1, []int{3}, []int{3}, []int{0, 1, 2, 3}, []int{6, 1, 1, 1, 1}, 0, "1:3.3.0"},
		{"1:0.0.3,4.0.0", 1, []int{3}, []int{3}, []int{1}, []int{6, 1, 1}, 0, "1:0.0.3"},
		{"1:5.0.0,0.0.3", 1, []int{3}, []int{3}, []int{0}, []int{6, 3, 1}, 1, "1:0.0.3"},
		{"1:4.0.0,4.0.0,4.0.0,4.0.0,4.0.0,1.6.0", 1, []int{6}, []int{6}, []int{0, 1, 2, 3, 4}, []int{6, 6, 6, 6, 6, 6, 1}, 5, "1:1.6.0"},
		// Several best clues: three hidden times are 7 together, and in three the person 0 needs 4.
		{"2:1.7.0,0.0.4", 0, nil, nil, nil, []int{21, 3, 0}, 0, ""},
		{"2:0.0.4,1.7.0", 0, nil, nil, nil, []int{21, 3, 0}, 0, ""},
		{"2:0.0.1,0.0.4,1.7.0", 0, nil, nil, []int{0, 2}, []int{21, 6, 0, 0}, 1, ""},
		{"2:4.1.2,0.1.4,1.7.0,0.0.4", 0, nil, nil, []int{0, 1, 2, 3}, []int{21, 4, 1, 0, 0}, 2, ""},
	} {
		p := puzzle(t, k.text)
		checkPuzzle(t, p)
		if n, ok := impl.CountSolutions(p); n != k.count || !ok {
			t.Errorf("%s: CountSolutions is %d, %v", k.text, n, ok)
		}
		if first, ok := impl.FirstSolution(p); !slices.Equal(first, k.first) || ok != (k.count > 0) {
			t.Errorf("%s: FirstSolution is %v, %v", k.text, first, ok)
		}
		if sure, ok := impl.SureTimes(p); !slices.Equal(sure, k.sure) || ok != (k.count > 0) {
			t.Errorf("%s: SureTimes is %v, %v", k.text, sure, ok)
		}
		if needless, ok := impl.NeedlessClues(p); !slices.Equal(needless, k.needless) || !ok {
			t.Errorf("%s: NeedlessClues is %v, %v", k.text, needless, ok)
		}
		if left, ok := impl.LeftByClues(p); !slices.Equal(left, k.left) || !ok {
			t.Errorf("%s: LeftByClues is %v, %v", k.text, left, ok)
		}
		if best, ok := impl.BestClue(p); best != max(k.best, 0) || ok != (k.best >= 0) {
			t.Errorf("%s: BestClue is %d, %v", k.text, best, ok)
		}
		hard, ok := impl.HarderPuzzle(p)
		if ok != (k.harder != "") || ok && puzzleText(hard) != k.harder {
			t.Errorf("%s: HarderPuzzle is %v, %v", k.text, hard, ok)
		}
	}
}

func TestDropClue(t *testing.T) {
	for _, k := range []struct {
		text string
		k    int
		want string
	}{
		{"2:1.7.0,2.5.0,0.0.2", 0, "2:2.5.0,0.0.2"},
		{"2:1.7.0,2.5.0,0.0.2", 1, "2:1.7.0,0.0.2"},
		{"2:1.7.0,2.5.0,0.0.2", 2, "2:1.7.0,2.5.0"},
		{"1:0.0.3", 0, "1:"},
		{"4:1.24.0,1.4.0", 1, "4:1.24.0"},
		{"1:1.1.0,1.2.0,1.3.0,1.4.0,1.5.0,1.6.0", 5, "1:1.1.0,1.2.0,1.3.0,1.4.0,1.5.0"},
		{"1:1.1.0,1.2.0,1.3.0,1.4.0,1.5.0,1.6.0", 0, "1:1.2.0,1.3.0,1.4.0,1.5.0,1.6.0"},
		// Of two that are the same, one is dropped.
		{"1:1.1.0,1.1.0", 0, "1:1.1.0"},
		{"1:1.1.0,1.1.0", 2, ""},
		{"1:1.1.0,1.1.0", -1, ""},
		{"1:", 0, ""},
		{"1:", -1, ""},
		{"4:", math.MaxInt, ""},
		{"4:1.24.0", math.MinInt, ""},
		{"4:1.24.0", 1, ""},
		{"4:1.24.0", 1 << 32, ""},
	} {
		rest, ok := impl.DropClue(puzzle(t, k.text), k.k)
		if ok != (k.want != "") || ok && puzzleText(rest) != k.want || !ok && !isZeroPuzzle(rest) {
			t.Errorf("DropClue(%s, %d) = %v, %v", k.text, k.k, rest, ok)
		}
	}
}

// Clues are put in one by one, up to MaxClues, and one more is too many.
func TestAddClue(t *testing.T) {
	for people := 1; people <= impl.MaxHidden; people++ {
		all := cluesOf(people)
		for n, last := range all {
			p := impl.Puzzle{People: people}
			for len(p.Clues) < impl.MaxClues {
				c := all[(n+41*len(p.Clues))%len(all)]
				checkAdd(t, p, c)
				p.Clues = append(p.Clues, c)
			}
			checkAdd(t, p, last)
		}
		for _, c := range badClues(people) {
			for clues := range impl.MaxClues + 1 {
				p := impl.Puzzle{People: people, Clues: all[:clues]}
				if more, ok := impl.AddClue(p, c); ok || !isZeroPuzzle(more) {
					t.Errorf("AddClue(%v, %v) = %v, %v", p, c, more, ok)
				}
			}
		}
	}
	// A clue of more people.
	if more, ok := impl.AddClue(puzzle(t, "2:1.7.0"), clue(0, 2, 1)); ok || !isZeroPuzzle(more) {
		t.Error(more, ok)
	}
	if more, ok := impl.AddClue(puzzle(t, "3:1.7.0"), clue(0, 2, 1)); !ok || puzzleText(more) != "3:1.7.0,0.2.1" {
		t.Error(more, ok)
	}
}
