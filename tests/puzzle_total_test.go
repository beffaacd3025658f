package tests

import (
	"math"
	"reflect"
	"slices"
	"testing"

	"loop.example/g01272/impl"
)

func badPuzzles() []impl.Puzzle {
	bad := []impl.Puzzle{{}, {Clues: []impl.Clue{clue(1, 5, 0)}}}
	for _, people := range []int{-1, 0, 5, 6, 1 << 32, math.MinInt, math.MaxInt} {
		bad = append(bad, impl.Puzzle{People: people}, impl.Puzzle{People: people, Clues: []impl.Clue{clue(1, 5, 0), clue(2, 5, 0)}})
	}
	for people := 1; people <= impl.MaxHidden; people++ {
		for _, c := range badClues(people) {
			// Also where no hidden times fit the first clue.
			bad = append(bad, impl.Puzzle{People: people, Clues: []impl.Clue{c}}, impl.Puzzle{People: people, Clues: []impl.Clue{clue(2, 100, 0), clue(1, 5, 0), c}})
		}
		bad = append(bad,
			impl.Puzzle{People: people, Clues: slices.Repeat([]impl.Clue{clue(1, people, 0)}, 7)},
			impl.Puzzle{People: people, Clues: slices.Repeat([]impl.Clue{clue(1, people, 0)}, 1000)},
			impl.Puzzle{People: people, Clues: make([]impl.Clue, 1000)},
		)
	}
	return bad
}

// callPuzzles calls all functions of chapter 9 with the same arguments.
func callPuzzles(p impl.Puzzle, c impl.Clue, times []int, k int, n int, text string) []result {
	var all []result
	add := func(name string, value any, ok bool) { all = append(all, got(name, ok, value)) }
	add("IsClue", impl.IsClue(p.People, c), true)
	add("IsPuzzle", impl.IsPuzzle(p), true)
	add("IsHidden", impl.IsHidden(times), true)
	hidden, ok := impl.CountHidden(p.People)
	add("CountHidden", hidden, ok)
	fit, ok := impl.DoesFit(c, times)
	add("DoesFit", fit, ok)
	solutions, ok := impl.Solutions(p)
	add("Solutions", solutions, ok)
	count, ok := impl.CountSolutions(p)
	add("CountSolutions", count, ok)
	first, ok := impl.FirstSolution(p)
	add("FirstSolution", first, ok)
	sure, ok := impl.SureTimes(p)
	add("SureTimes", sure, ok)
	solved, ok := impl.IsSolved(p)
	add("IsSolved", solved, ok)
	needless, ok := impl.NeedlessClues(p)
	add("NeedlessClues", needless, ok)
	dropped, ok := impl.DropClue(p, k)
	add("DropClue", dropped, ok)
	added, ok := impl.AddClue(p, c)
	add("AddClue", added, ok)
	left, ok := impl.LeftByClues(p)
	add("LeftByClues", left, ok)
	best, ok := impl.BestClue(p)
	add("BestClue", best, ok)
	hard, ok := impl.HarderPuzzle(p)
	add("HarderPuzzle", hard, ok)
	made, ok := impl.MakePuzzle(times, k, n)
	add("MakePuzzle", made, ok)
	written, ok := impl.PuzzleText(p)
	add("PuzzleText", written, ok)
	parsed, ok := impl.ParsePuzzle(text)
	add("ParsePuzzle", parsed, ok)
	return all
}

// toldPuzzles are the functions that are told a puzzle, and not only how many people it has.
var toldPuzzles = []string{
	"Solutions", "CountSolutions", "FirstSolution", "SureTimes", "IsSolved", "NeedlessClues", "DropClue", "AddClue", "LeftByClues", "BestClue", "HarderPuzzle", "PuzzleText",
}

func TestPuzzlesThatAreNone(t *testing.T) {
	for _, p := range badPuzzles() {
		for _, k := range []int{0, 1, 2, len(p.Clues) - 1} {
			for _, r := range callPuzzles(p, clue(1, 5, 0), []int{1, 2}, k, 0, "1:") {
				if slices.Contains(toldPuzzles, r.name) {
					checkFails(t, p, r)
				}
				if r.name == "IsPuzzle" && r.values[0] != false {
					t.Errorf("%v is a puzzle", p)
				}
			}
		}
	}
}

// checkWhichFail checks that of all calls with a puzzle, and with other arguments that are valid, those of some functions fail, and no others.
func checkWhichFail(t *testing.T, p impl.Puzzle, names ...string) {
	t.Helper()
	for _, r := range callPuzzles(p, clue(1, 5, 0), []int{1, 2}, 0, 0, "1:") {
		if slices.Contains(names, r.name) {
			checkFails(t, p, r)
		} else if !r.ok {
			t.Errorf("%s fails with %v", r.name, p)
		}
	}
}

func TestPuzzlesWithoutSolutions(t *testing.T) {
	for _, text := range []string{"1:1.7.0", "2:0.0.6,0.1.5", "4:2.100.0,3.100.0,1.1.0", "3:5.0.0,5.1.0", "2:0.0.5,4.1.5"} {
		checkWhichFail(t, puzzle(t, text), "FirstSolution", "SureTimes", "HarderPuzzle")
	}
}

func TestPuzzlesWithoutClues(t *testing.T) {
	for people := 1; people <= impl.MaxHidden; people++ {
		for _, clues := range [][]impl.Clue{nil, {}} {
			checkWhichFail(t, impl.Puzzle{People: people, Clues: clues}, "DropClue", "BestClue", "HarderPuzzle")
		}
	}
}

func TestPuzzlesOfMaxClues(t *testing.T) {
	checkWhichFail(t, puzzle(t, "1:0.0.3,1.3.0,2.3.0,3.3.0,4.0.0,5.0.0"), "AddClue")
	checkWhichFail(t, puzzle(t, "1:1.3.0,2.3.0,3.3.0,4.0.0,5.0.0"))
	checkWhichFail(t, puzzle(t, "4:4.0.0,4.0.0,4.0.0,4.0.0,4.0.0,4.0.0"), "AddClue", "HarderPuzzle")
}

// Promise 11: a call that fails returns zero values, whatever the arguments are, and no call panics.
func TestPuzzlesAcceptAllArguments(t *testing.T) {
	numbers := []int{math.MinInt, -1, 0, 1, 2, 5, 6, 7, 9999, 10000, math.MaxInt}
	texts := []string{"", ":", "1:", "5:", "2:1.7.0,2.5.0", "2:1.7.0,", "\xff\x00", "::::....,,,,", "99999999999999999999:1.1.1"}
	lists := append(badHidden(), []int{1}, []int{6}, []int{2, 5}, []int{1, 3, 6}, []int{1, 2, 5, 6}, []int{6, 6, 6, 6})
	for i, p := range slices.Concat(badPuzzles(), chosenPuzzles(1, 20), chosenPuzzles(2, 20), chosenPuzzles(3, 20), chosenPuzzles(4, 20)) {
		for j, c := range append(badClues(3), clue(0, 0, 1), clue(1, 5, 0), clue(3, 9, 0), clue(4, 1, 5), clue(5, 1, 0)) {
			n := i + j
			times, k := lists[n%len(lists)], numbers[n%len(numbers)]
			for _, r := range callPuzzles(p, c, times, k, numbers[n/len(numbers)%len(numbers)], texts[n%len(texts)]) {
				if !r.ok {
					checkFails(t, []any{p, c, times, k}, r)
				}
			}
		}
	}
}

// Promise 11: arguments are not modified, neither by a call nor by what is done to its results, and spare capacity is neither read nor written.
func TestPuzzlesModifyNoArguments(t *testing.T) {
	for _, k := range []struct {
		text  string
		c     impl.Clue
		times []int
		k     int
		seed  int
	}{
		{"1:", clue(0, 0, 3), []int{3}, 0, 0},
		{"1:0.0.3", clue(1, 3, 0), []int{3}, 0, 1},
		{"2:1.7.0", clue(2, 5, 0), []int{2, 5}, 1, 2},
		{"2:1.7.0,2.5.0", clue(0, 0, 2), []int{2, 5}, 0, 9999},
		{"2:1.7.0,2.5.0", clue(0, 0, 2), []int{5, 2}, 1, 9999},
		{"2:1.7.0,2.5.0,0.0.2", clue(7, 0, 2), []int{1, 2, 5, 6}, 2, 5},
		{"2:0.0.2,4.0.0,0.1.5,4.0.0", clue(4, 1, 3), []int{1, 2, 7}, 3, 5000},
		{"3:2.9.0,1.9.0", clue(5, 3, 0), []int{1, 3, 6}, 2, 5000},
		{"2:0.0.6,0.1.5", clue(5, 3, 0), []int{1, 3, 6}, 6, 0},
		{"4:0.3.6,1.14.0,2.13.0,3.15.0,4.3.5,5.2.0", clue(1, 14, 0), []int{1, 2, 5, 6}, 5, 42},
		{"1:0.0.3,1.3.0,2.3.0,3.3.0,4.0.0,5.0.0", clue(1, 14, 0), []int{6, 6, 6, 6}, 0, 42},
	} {
		plain := callPuzzles(puzzle(t, k.text), k.c, k.times, k.k, k.seed, k.text)
		for _, fill := range []impl.Clue{clue(-77, -77, -77), clue(0, 0, 3)} {
			mine := puzzle(t, k.text)
			w := makeSpare(impl.Party{}, impl.State{}, nil)
			w.clues, w.at = spare(mine.Clues, fill), spare(k.times, 6)
			p := impl.Puzzle{People: mine.People, Clues: w.clues}
			checkArgumentsStay(t, k, w, plain, func() []result { return callPuzzles(p, k.c, w.at, k.k, k.seed, k.text) })
		}
	}
}

// Results stay as they are, whatever later calls return and whatever becomes of the arguments.
func TestPuzzlesShareNoMemory(t *testing.T) {
	// Nothing of the first puzzle can be taken out, and of the second one the first clue.
	for _, text := range []string{"2:1.7.0,2.5.0", "2:5.1.0,1.7.0,2.5.0", "1:0.0.3"} {
		p := puzzle(t, text)
		p.Clues = spare(p.Clues, clue(0, 0, 3))
		last := len(p.Clues) - 1
		var kept []impl.Puzzle
		keep := func(q impl.Puzzle, ok bool) {
			if !ok {
				t.Error(text, q)
			}
			kept = append(kept, q)
		}
		for range 2 {
			keep(impl.AddClue(p, clue(0, 0, 2)))
			keep(impl.AddClue(p, clue(1, 3, 0)))
			keep(impl.DropClue(p, 0))
			keep(impl.DropClue(p, last))
			keep(impl.HarderPuzzle(p))
			keep(impl.AddClue(kept[len(kept)-2], clue(1, 4, 0)))
			keep(impl.AddClue(kept[len(kept)-3], clue(1, 5, 0)))
		}
		var before []string
		for _, q := range kept {
			before = append(before, puzzleText(q))
		}
		scribble(p)
		for n, q := range kept {
			if puzzleText(q) != before[n] {
				t.Errorf("%s: the result %d was %s and is %v", text, n, before[n], q)
			}
		}
		for n, q := range kept {
			scribble(q)
			for m := n + 1; m < len(kept); m++ {
				if puzzleText(kept[m]) != before[m] {
					t.Errorf("%s: the results %d and %d share memory", text, n, m)
				}
			}
		}
	}
}

func TestSolutionsShareNoMemory(t *testing.T) {
	for _, text := range []string{"4:", "2:1.7.0", "3:2.9.0", "1:0.0.3"} {
		list, _ := impl.Solutions(puzzle(t, text))
		checkApart(t, list)
		again, _ := impl.Solutions(puzzle(t, text))
		first, _ := impl.FirstSolution(puzzle(t, text))
		if len(again) == 0 || !slices.Equal(first, again[0]) || slices.Contains(first, -99) {
			t.Errorf("%s: %v, and the first one is %v", text, again, first)
		}
	}
}

func TestPuzzlesAreTheSameEachTime(t *testing.T) {
	for _, p := range slices.Concat(chosenPuzzles(2, 10), chosenPuzzles(4, 10)) {
		once := callPuzzles(p, clue(1, 5, 0), []int{1, 2}, 1, 17, "1:")
		if again := callPuzzles(p, clue(1, 5, 0), []int{1, 2}, 1, 17, "1:"); !reflect.DeepEqual(once, again) {
			t.Fatalf("%v: %v, and then %v", p, once, again)
		}
	}
}
