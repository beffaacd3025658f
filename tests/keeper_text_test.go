package tests

import (
	"fmt"
	"math"
	"slices"
	"strings"
	"testing"

	"loop.example/g01272/impl"
)

// keepText writes a KeepText without the package's help.
func keepText(k impl.Keep) string {
	var dangers []string
	for _, d := range k.Dangers {
		dangers = append(dangers, fmt.Sprintf("%d%d", d[0], d[1]))
	}
	return fmt.Sprintf("%d/%d/%s", k.Things, k.Seats, strings.Join(dangers, "."))
}

func TestKeepTexts(t *testing.T) {
	for _, c := range []struct {
		text string
		k    impl.Keep
	}{
		{"0/0/", impl.Keep{}},
		{"0/8/", impl.Keep{Seats: 8}},
		{"3/1/01.12", impl.Keep{Things: 3, Dangers: [][]int{{0, 1}, {1, 2}}, Seats: 1}},
		{"8/0/67", impl.Keep{Things: 8, Dangers: [][]int{{6, 7}}}},
		{"4/2/02.03.13", impl.Keep{Things: 4, Dangers: [][]int{{0, 2}, {0, 3}, {1, 3}}, Seats: 2}},
	} {
		if text, ok := impl.KeepText(c.k); !ok || text != c.text {
			t.Errorf("KeepText(%v) = %q, %v", c.k, text, ok)
		}
		if k, ok := impl.ParseKeep(c.text); !ok || !sameKeep(k, c.k) {
			t.Errorf("ParseKeep(%q) = %v, %v", c.text, k, ok)
		}
	}
	greatest := impl.Keep{Things: 8, Dangers: pairsOf(8), Seats: 8}
	for _, k := range slices.Concat(smallKeeps(), otherKeeps(), []impl.Keep{greatest}) {
		text, ok := impl.KeepText(k)
		if !ok || text != keepText(k) {
			t.Fatalf("KeepText(%v) = %q, %v", k, text, ok)
		}
		if again, ok := impl.ParseKeep(text); !ok || !sameKeep(again, k) {
			t.Fatalf("ParseKeep(%q) = %v, %v, want %v", text, again, ok, k)
		}
	}
	for _, k := range badKeeps() {
		if text, ok := impl.KeepText(k); ok || text != "" {
			t.Errorf("KeepText(%v) = %q, %v", k, text, ok)
		}
	}
}

func TestTextsOfNoKeep(t *testing.T) {
	for _, text := range []string{
		"", "/", "//", "///", "3", "3/", "3/1", "3//", "/1/", "//01", "3/1/01/", "3/1//01", "3/1/01/12", "/3/1/01", "3/1/01.12/",
		"3/1/.", "3/1/01.", "3/1/.01", "3/1/01..12", "3/1/0112", "3/1/01,12", "3/1/01;12", "3/1/01.1", "3/1/0", "3/1/1.2", "3/1/012", "3/1/001", "3/1/01.012",
		"3/1/12.01", "3/1/02.01", "3/1/01.01", "3/1/01.12.02", "3/1/01.12.12", "3/1/10", "3/1/21", "3/1/00", "3/1/11", "3/1/22",
		"3/1/03", "3/1/13", "3/1/34", "3/1/01.23", "0/0/00", "0/0/01", "1/1/01", "2/1/12", "8/1/08", "8/1/78", "8/1/89", "8/8/09",
		"+3/1/01", "-3/1/01", "3/+1/01", "3/-1/01", "-0/0/", "0/-0/", "3/1/+1", "3/1/-1", "3/1/0+", "3/1/-0", "3/1/01.-2", "3/1/01-12",
		"03/1/01", "3/01/01", "00/0/", "0/00/", "3/1/1", "3/1/0.1", "3/1/ 1", "3/1/0 ", "3/1/ 01", "3/1/01 ", "3/1/01 .12", "3/1/01. 12", " 3/1/01", "3 /1/01", "3/ 1/01", "3/1 /01",
		"3/1/01\n", "\n3/1/01", "3/1/01\x00", "\xff/1/01", "3/1/\xff1", "3/1/é", "３/1/01", "3/1/０１", "3/1/0x", "3/1/ab", "x/1/01", "3/x/01", "0x3/1/01", "3.0/1/", "3e0/1/", "1_0/1/",
		"9/1/", "9/9/", "8/9/", "3/9/01", "10/1/", "1/10/", "-1/1/", "1/-1/", "9223372036854775807/1/", "9223372036854775808/1/", "18446744073709551619/1/", "3/18446744073709551617/",
		"-9223372036854775808/1/", "3/-9223372036854775808/", "3/1/99999999999999999999",
		strings.Repeat("0", 5000) + "3/1/", "3/1/" + strings.Repeat("01.", 5000) + "12", "3/1/" + strings.Repeat("01", 5000), strings.Repeat("/", 5000), "3/1/" + strings.Repeat(".", 5000),
	} {
		if k, ok := impl.ParseKeep(text); ok || !isZeroKeep(k) {
			t.Errorf("ParseKeep(%q) = %v, %v", text, k, ok)
		}
	}
	// The same danger any number of times.
	for words := range 70 {
		text := "8/8/" + strings.TrimSuffix(strings.Repeat("01.", words), ".")
		if k, ok := impl.ParseKeep(text); ok != (words < 2) || !ok && !isZeroKeep(k) {
			t.Errorf("ParseKeep(%q) = %v, %v", text, k, ok)
		}
	}
}

// Texts next to those of keeps are such texts themselves, or are parsed to nothing.
func TestTextsNextToKeepTexts(t *testing.T) {
	keeps := map[string]impl.Keep{}
	for things := range 5 {
		for seats := range impl.MaxThings + 1 {
			for _, k := range keepsOf(things, seats) {
				keeps[keepText(k)] = k
			}
		}
	}
	check := func(text string) {
		want, isText := keeps[text]
		if k, ok := impl.ParseKeep(text); ok != isText || !sameKeep(k, want) {
			t.Fatalf("ParseKeep(%q) = %v, %v", text, k, ok)
		}
	}
	for text := range keeps {
		for i := range len(text) + 1 {
			for _, c := range []string{"0", "1", "2", "3", "4", "/", ".", "-", "+", " "} {
				check(text[:i] + c + text[i:])
				if i < len(text) {
					check(text[:i] + c + text[i+1:])
				}
			}
			if i < len(text) {
				check(text[:i] + text[i+1:])
			}
		}
	}
}

// checkDanger checks WithDanger, which succeeds if the two things are different ones that have no danger yet.
func checkDanger(t *testing.T, k impl.Keep, i, j int) {
	t.Helper()
	pair := []int{min(i, j), max(i, j)}
	can := i != j && pair[0] >= 0 && pair[1] < k.Things
	can = can && !slices.ContainsFunc(k.Dangers, func(d []int) bool { return slices.Equal(d, pair) })
	before := keepText(k)
	more, ok := impl.WithDanger(k, i, j)
	if before != keepText(k) {
		t.Fatalf("WithDanger(%s, %d, %d) changes its keep to %v", before, i, j, k)
	}
	if ok != can || !ok && !isZeroKeep(more) {
		t.Fatalf("WithDanger(%v, %d, %d) = %v, %v", k, i, j, more, ok)
	}
	if !ok {
		return
	}
	dangers := append(slices.Clone(k.Dangers), pair)
	slices.SortFunc(dangers, slices.Compare[[]int])
	if !impl.IsKeep(more) || !sameKeep(more, impl.Keep{Things: k.Things, Dangers: dangers, Seats: k.Seats}) {
		t.Fatalf("WithDanger(%v, %d, %d) = %v", k, i, j, more)
	}
	if again, ok := impl.WithDanger(more, j, i); ok || !isZeroKeep(again) {
		t.Fatalf("WithDanger(%v, %d, %d) = %v, %v", more, j, i, again, ok)
	}
}

func TestWithDanger(t *testing.T) {
	numbers := []int{math.MinInt, -2, -1, 0, 1, 2, 3, 4, 5, 8, math.MaxInt}
	for things := range 5 {
		for _, k := range keepsOf(things, things) {
			for _, i := range numbers {
				for _, j := range numbers {
					checkDanger(t, k, i, j)
				}
			}
		}
	}
	for _, c := range []struct {
		keep string
		i, j int
		want string
	}{
		{"3/1/01.12", 0, 2, "3/1/01.02.12"},
		{"3/1/01.12", 2, 0, "3/1/01.02.12"},
		{"2/0/", 0, 1, "2/0/01"},
		{"8/8/01", 7, 6, "8/8/01.67"},
		{"8/8/67", 1, 0, "8/8/01.67"},
		{"3/1/01.12", 0, 1, ""},
		{"3/1/01.12", 1, 0, ""},
		{"3/1/01.12", 2, 1, ""},
		{"3/1/01.12", 2, 2, ""},
		{"3/1/01.12", 0, 3, ""},
		{"3/1/01.12", -1, 0, ""},
	} {
		k, ok := impl.WithDanger(keep(t, c.keep), c.i, c.j)
		if ok != (c.want != "") || ok && keepText(k) != c.want || !ok && !isZeroKeep(k) {
			t.Errorf("WithDanger(%s, %d, %d) = %v, %v", c.keep, c.i, c.j, k, ok)
		}
	}
}

// All dangers of MaxThings are put in, the last ones first.
func TestAllDangersOfMaxThings(t *testing.T) {
	k := impl.Keep{Things: impl.MaxThings, Seats: 1}
	for n, pair := range slices.Backward(pairsOf(impl.MaxThings)) {
		more, ok := impl.WithDanger(k, pair[n%2], pair[1-n%2])
		if !ok {
			t.Fatal(k, pair)
		}
		k = more
	}
	if !sameKeep(k, impl.Keep{Things: impl.MaxThings, Dangers: pairsOf(impl.MaxThings), Seats: 1}) {
		t.Error(k)
	}
	for i := range impl.MaxThings {
		for j := range impl.MaxThings {
			checkDanger(t, k, i, j)
		}
	}
}
