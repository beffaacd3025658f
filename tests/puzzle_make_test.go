package tests

import (
	"math"
	"slices"
	"testing"

	"loop.example/g01272/impl"
)

// made is the puzzle that MakePuzzle has to return, whose clues are found among those that the times fit.
func made(times []int, about []impl.Clue, clues, seed int) impl.Puzzle {
	z := seed
	p := impl.Puzzle{People: len(times)}
	for range clues {
		z = (139*z + 2971) % 10007
		kind, person := z%6, -1
		if kind == 0 || kind == 4 {
			z = (139*z + 2971) % 10007
			person = z % len(times)
		}
		k := slices.IndexFunc(about, func(c impl.Clue) bool { return c.Kind == kind && (person < 0 || c.A == person) })
		p.Clues = append(p.Clues, about[k])
	}
	return p
}

// checkMade checks MakePuzzle of hidden times, with at most MaxClues clues and a seed that may be one.
func checkMade(t *testing.T, times []int, clues, seed int, want impl.Puzzle) {
	t.Helper()
	p, ok := impl.MakePuzzle(times, clues, seed)
	if !ok || !impl.IsPuzzle(p) || len(p.Clues) != clues || !samePuzzle(p, want) {
		t.Fatalf("MakePuzzle(%v, %d, %d) = %v, %v, not %v", times, clues, seed, p, ok, want)
	}
	for _, c := range p.Clues {
		if fit, ok := impl.DoesFit(c, times); !fit || !ok {
			t.Fatalf("MakePuzzle(%v, %d, %d) = %v, but %v: %v, %v", times, clues, seed, p, c, fit, ok)
		}
	}
}

// Behind each case are the numbers z, worked out by hand, with what is left of them modulo 6, or modulo as many as there are people.
func TestMakePuzzle(t *testing.T) {
	for _, k := range []struct {
		times []int
		seed  int
		want  string
	}{
		// 2971: 1, 5653: 1, 8192: 2, 861: 3, 2566: 4, 9400: 0 of 4, 8661: 3.
		{[]int{1, 2, 5, 6}, 0, "4:1.14.0,1.14.0,2.13.0,3.15.0,4.0.0,3.15.0"},
		{[]int{3}, 0, "1:1.3.0,1.3.0,2.3.0,3.3.0,4.0.0,3.3.0"},
		// Of 3 people, 9400 leaves 1.
		{[]int{1, 3, 6}, 0, "3:1.10.0,1.10.0,2.10.0,3.10.0,4.1.2,3.10.0"},
		// 3110: 2, 4960: 4, 1928: 0 of 4, 774: 0, 480: 0 of 4, 9649: 1, 3244: 4, 3572: 0 of 4, 9136: 4, 1986: 2 of 4.
		{[]int{1, 2, 5, 6}, 1, "4:2.13.0,4.0.0,0.0.1,1.14.0,4.0.0,4.2.4"},
		// Of 3 people, 1928 leaves 2, 480 leaves 0, 3572 leaves 2 and 1986 leaves 0.
		{[]int{1, 3, 6}, 1, "3:2.10.0,4.2.5,0.0.1,1.10.0,4.2.5,4.0.0"},
		// 1720: 4, 1883: 3 of 4, 4526: 2, 1644: 0, 1326: 2 of 4, 7159: 1, 7379: 5, 7938: 0, 5583: 3 of 4.
		{[]int{1, 2, 5, 6}, 9998, "4:4.3.5,2.13.0,0.2.5,1.14.0,5.2.0,0.3.6"},
		// Of 2 people, 1883 leaves 1, 1326 leaves 0 and 5583 leaves 1.
		{[]int{2, 4}, 9998, "2:4.1.2,2.4.0,0.0.2,1.6.0,5.2.0,0.1.4"},
		// 1859: 5, 1190: 2, 8269: 1, 1557: 3, 9247: 1, 7408: 4, 1962: 2 of 4.
		{[]int{1, 2, 5, 6}, 9999, "4:5.2.0,2.13.0,1.14.0,3.15.0,1.14.0,4.2.4"},
		{[]int{6, 6, 6, 6}, 9999, "4:5.4.0,2.30.0,1.24.0,3.30.0,1.24.0,4.2.0"},
		{[]int{1, 1, 1, 1}, 9999, "4:5.0.0,2.5.0,1.4.0,3.5.0,1.4.0,4.2.0"},
	} {
		want := puzzle(t, k.want)
		for clues := range impl.MaxClues + 1 {
			checkMade(t, k.times, clues, k.seed, impl.Puzzle{People: want.People, Clues: want.Clues[:clues]})
		}
	}
}

// All hidden times with some seeds, and all seeds with some hidden times.
func TestPuzzlesThatAreMade(t *testing.T) {
	solved := 0
	for people := 1; people <= impl.MaxHidden; people++ {
		for n, times := range hiddenTimes(people) {
			about := cluesAbout(times)
			for _, seed := range []int{0, 1, 17, 5000 + n, 9998, 9999} {
				p := made(times, about, impl.MaxClues, seed)
				for _, clues := range []int{0, 1, n % 6, 6} {
					checkMade(t, times, clues, seed, impl.Puzzle{People: people, Clues: p.Clues[:clues]})
				}
				if n%5 == 0 {
					checkPuzzle(t, p)
				}
				if list, ok := impl.Solutions(p); !ok || !slices.ContainsFunc(list, func(l []int) bool { return slices.Equal(l, times) }) {
					t.Fatalf("%v are no solution of %v", times, p)
				} else if len(list) == 1 {
					solved++
				}
			}
		}
	}
	if solved == 0 {
		t.Error("no puzzle that is made is solved")
	}
	for _, times := range [][]int{{3}, {2, 4}, {1, 3, 6}, {1, 2, 5, 6}} {
		about := cluesAbout(times)
		for seed := range 10000 {
			checkMade(t, times, impl.MaxClues, seed, made(times, about, impl.MaxClues, seed))
		}
	}
}

func TestMakePuzzleOfNoSuchArguments(t *testing.T) {
	fails := func(times []int, clues, seed int) {
		t.Helper()
		if p, ok := impl.MakePuzzle(times, clues, seed); ok || !isZeroPuzzle(p) {
			t.Errorf("MakePuzzle(%v, %d, %d) = %v, %v", times, clues, seed, p, ok)
		}
	}
	for _, times := range badHidden() {
		for _, seed := range []int{0, 1, 9999} {
			fails(times, 0, seed)
			fails(times, 6, seed)
		}
	}
	for _, times := range [][]int{{3}, {2, 4}, {1, 3, 6}, {1, 2, 5, 6}} {
		for _, clues := range []int{-1, 7, 8, 1 << 32, math.MinInt, math.MaxInt} {
			fails(times, clues, 0)
			fails(times, clues, 9999)
		}
		for _, seed := range []int{-1, 10000, 10006, 10007, 1 << 32, math.MinInt, math.MaxInt} {
			fails(times, 0, seed)
			fails(times, 6, seed)
		}
	}
}
