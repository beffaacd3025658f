package tests

import (
	"fmt"
	"regexp"
	"strings"
	"testing"

	"loop.example/g01272/impl"
)

// puzzleText writes a PuzzleText without the package's help.
func puzzleText(p impl.Puzzle) string {
	var clues []string
	for _, c := range p.Clues {
		clues = append(clues, fmt.Sprintf("%d.%d.%d", c.Kind, c.A, c.B))
	}
	return fmt.Sprintf("%d:%s", p.People, strings.Join(clues, ","))
}

// puzzlePattern returns the shape of PuzzleTexts, for each number of people.
func puzzlePattern() *regexp.Regexp {
	var shapes []string
	for people := 1; people <= 4; people++ {
		person := fmt.Sprintf("[0-%d]", people-1)
		c := `(0\.` + person + `\.[1-6]|1\.([1-9]|1[0-9]|2[0-4])\.0|[23]\.([1-9]|[1-9][0-9]|100)\.0|4\.` + person + `\.[0-5]|5\.` + fmt.Sprintf("[0-%d]", people) + `\.0)`
		shapes = append(shapes, fmt.Sprintf("%d:(%s(,%s){0,5})?", people, c, c))
	}
	return regexp.MustCompile("^(" + strings.Join(shapes, "|") + ")$")
}

var puzzleShape = puzzlePattern()

// checkParsePuzzle checks ParsePuzzle of a text, and returns whether it is a PuzzleText.
func checkParsePuzzle(t *testing.T, text string) bool {
	t.Helper()
	p, ok := impl.ParsePuzzle(text)
	if ok != puzzleShape.MatchString(text) {
		t.Fatalf("ParsePuzzle(%q) = %v, %v", text, p, ok)
	}
	if !ok && !isZeroPuzzle(p) {
		t.Fatalf("ParsePuzzle(%q) fails with %v", text, p)
	}
	if ok && (!impl.IsPuzzle(p) || puzzleText(p) != text) {
		t.Fatalf("ParsePuzzle(%q) = %v", text, p)
	}
	return ok
}

func TestPuzzleTexts(t *testing.T) {
	six := []impl.Clue{clue(0, 3, 6), clue(1, 24, 0), clue(2, 100, 0), clue(3, 100, 0), clue(4, 3, 5), clue(5, 4, 0)}
	for _, k := range []struct {
		text string
		p    impl.Puzzle
	}{
		{"1:", impl.Puzzle{People: 1}},
		{"4:", impl.Puzzle{People: 4, Clues: []impl.Clue{}}},
		{"2:1.7.0,2.5.0", impl.Puzzle{People: 2, Clues: []impl.Clue{clue(1, 7, 0), clue(2, 5, 0)}}},
		{"3:2.9.0", impl.Puzzle{People: 3, Clues: []impl.Clue{clue(2, 9, 0)}}},
		{"4:0.3.6,1.24.0,2.100.0,3.100.0,4.3.5,5.4.0", impl.Puzzle{People: 4, Clues: six}},
		{"1:0.0.1,1.1.0,2.1.0,3.1.0,4.0.0,5.0.0", impl.Puzzle{People: 1, Clues: []impl.Clue{clue(0, 0, 1), clue(1, 1, 0), clue(2, 1, 0), clue(3, 1, 0), clue(4, 0, 0), clue(5, 0, 0)}}},
	} {
		checkText(t, k.p, k.text, impl.PuzzleText, impl.ParsePuzzle, samePuzzle)
	}
	// All clues, one by one, and in front of and behind another one.
	for people := 1; people <= impl.MaxHidden; people++ {
		for _, c := range cluesOf(people) {
			for _, clues := range [][]impl.Clue{{c}, {c, clue(1, 10, 0)}, {clue(1, 10, 0), c}} {
				p := impl.Puzzle{People: people, Clues: clues}
				checkText(t, p, puzzleText(p), impl.PuzzleText, impl.ParsePuzzle, samePuzzle)
			}
		}
	}
	for _, p := range badPuzzles() {
		if text, ok := impl.PuzzleText(p); ok || text != "" {
			t.Errorf("PuzzleText(%v) = %q, %v", p, text, ok)
		}
	}
}

func TestTextsOfNoPuzzle(t *testing.T) {
	for _, text := range []string{
		// Too few parts, and too many.
		"", ":", "1", "1:1", "1:1.1", "1:1.1.", "1:.1.0", "1:1..0", "1:..", "1:.", "1:...", ":1.1.0", "1:1.1.0.0", "1:0.0.1.", "1:.0.0.1", "1:1.1.0:", "1::1.1.0", "1:1:1.1.0", "1.1.0", "1.1.0:1",
		"::", "1::", ":1", "1:,", "1:,1.1.0", "1:1.1.0,", "1:1.1.0,,1.1.0", "1,1.1.0", "1.1.1.0", "1:1,1,0", "1:1.1,0", "1:1:1:0", "1;1.1.0", "1:1.1.0;1.1.0", "1/1.1.0", "1:1/1/0", "1:1.1.0 1.1.0", "1:1 1 0",
		// Signs, leading zeros, spaces and other letters.
		"+1:", "-1:", "1:+1.1.0", "1:1.+1.0", "1:1.1.+0", "1:1.1.-0", "1:-1.1.0", "1:1.-1.0", "1:-0.0.1", "1:0.-0.1", "1:0.0.-1", "1:0.0.+1", "1:1.1.0,-1.1.0", "-0:", "+1:1.1.0",
		"01:", "001:", "1:01.1.0", "1:1.01.0", "1:1.1.00", "1:0.00.1", "1:00.0.1", "1:0.0.01", "1:1.1.0,01.1.0", "00:",
		" 1:", "1 :", "1: ", "1:1.1.0 ", "1: 1.1.0", "1:1 .1.0", "1:1. 1.0", "1:1.1 .0", "1:1.1. 0", "1:1.1.0, 1.1.0", "1:1.1.0 ,1.1.0", "\t1:", "1:\n", "1:1.1.0\n", "\n1:", "1:\r", "1:\x00", "\x00", "\xff:", "1:\xff", "1:\xff.1.0",
		"1:1.1.0\x00", "１:", "1:１.1.0", "1：", "1:1。1。0", "a:", "1:a", "1:a.1.0", "1:1.a.0", "1:1.1.a", "1x:", "1:x", "1:1.1.0x", "1:0x1.1.0", "1:1e0.1.0", "1:1.1e0.0", "1:1_0.1.0", "0x1:", "1.0:", "1e0:", "1:r", "1*1:1", "2:1,2",
		// Numbers that are too small and too great.
		"0:", "5:", "10:", "0:1.1.0", "5:1.1.0", "1:6.0.0", "1:6.1.0", "1:7.1.0", "1:10.1.0", "1:0.1.1", "2:0.2.1", "4:0.4.1", "1:0.0.0", "1:0.0.7", "1:1.0.0", "1:1.25.0", "1:1.1.1", "1:2.0.0", "1:2.101.0", "1:2.1.1", "1:3.0.0",
		"1:3.101.0", "1:3.1.1", "1:4.1.0", "4:4.4.0", "1:4.0.6", "1:5.2.0", "4:5.5.0", "1:5.1.1", "2:1.7.0,2.0.0", "2:1.0.0,2.5.0", "2:1.7.0,6.5.0",
		"9223372036854775807:", "9223372036854775808:", "18446744073709551617:", "-9223372036854775808:", "1:9223372036854775807.1.0", "1:18446744073709551617.1.0", "1:1.9223372036854775807.0", "1:1.18446744073709551617.0",
		"1:1.1.9223372036854775807", "1:1.1.18446744073709551616", "1:-9223372036854775808.1.0", "1:1.-9223372036854775808.0", "1:0.0.-9223372036854775807", "1:1.1.99999999999999999999",
		// Too many clues.
		"1:1.1.0,1.1.0,1.1.0,1.1.0,1.1.0,1.1.0,1.1.0", "1:1.1.0,1.1.0,1.1.0,1.1.0,1.1.0,1.1.0,", "1:" + strings.Repeat("1.1.0,", 5000) + "1.1.0",
		strings.Repeat("0", 5000) + "1:", "1:" + strings.Repeat("0", 5000) + "1.1.0", "1:1." + strings.Repeat("1", 5000) + ".0", strings.Repeat(":", 5000), "1:" + strings.Repeat(".", 5000), "1:" + strings.Repeat(",", 5000), "1:" + strings.Repeat("1.", 5000) + "0",
	} {
		if checkParsePuzzle(t, text) {
			t.Errorf("%q is the text of a puzzle", text)
		}
	}
}

func TestParsePuzzleOfAllShortTexts(t *testing.T) {
	parsed := 0
	for _, text := range shortTexts([]string{"0", "1", "2", ":", ".", ",", "-"}, 7) {
		if checkParsePuzzle(t, text) {
			parsed++
		}
	}
	// 1: and 2: alone; one clue of five letters: that the person 0, or of two people the person 1 as well, needs 1 or 2, and those of the kinds 1 and 2 of 1 or 2.
	if want := 2 + (2 + 2 + 2) + (4 + 2 + 2); parsed != want {
		t.Errorf("%d texts are parsed, not %d", parsed, want)
	}
}

// Texts next to those of puzzles: a byte more, another one or one less.
func TestTextsNextToPuzzleTexts(t *testing.T) {
	for _, text := range []string{"1:", "4:", "1:0.0.6", "2:1.7.0,2.5.0", "3:2.9.0,4.2.5", "4:0.3.6,1.24.0,2.100.0,3.99.0,4.3.5,5.4.0", "1:1.1.0,1.10.0,1.20.0,2.10.0,3.11.0,5.1.0"} {
		if !checkParsePuzzle(t, text) {
			t.Errorf("%q is no text of a puzzle", text)
		}
		for _, near := range textsNextTo(text) {
			checkParsePuzzle(t, near)
		}
	}
}

// All numbers around the limits, and all numbers of clues.
func TestLimitsOfPuzzleTexts(t *testing.T) {
	parsed := map[int]int{}
	for people := range 8 {
		for kind := range 9 {
			for a := range 120 {
				for b := range 9 {
					if checkParsePuzzle(t, fmt.Sprintf("%d:%d.%d.%d", people, kind, a, b)) {
						parsed[people]++
					}
				}
			}
		}
		for clues := range 20 {
			text := fmt.Sprintf("%d:", people) + strings.TrimSuffix(strings.Repeat("1.10.0,", clues), ",")
			if is := checkParsePuzzle(t, text); is != (people >= 1 && people <= 4 && clues <= 6) {
				t.Error(text, is)
			}
		}
	}
	for people := range 8 {
		want := 0
		if people >= 1 && people <= 4 {
			want = len(cluesOf(people))
		}
		if parsed[people] != want {
			t.Errorf("%d clues of %d people are parsed, not %d", parsed[people], people, want)
		}
	}
}
