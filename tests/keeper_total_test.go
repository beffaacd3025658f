package tests

import (
	"math"
	"reflect"
	"runtime"
	"slices"
	"testing"
	"time"

	"loop.example/g01272/impl"
)

// callKeeps calls all functions of chapter 5 with the same arguments. The numbers are things.
func callKeeps(k impl.Keep, b impl.Bank, lists [][]int, i int, j int, text string) []result {
	var list []int
	if len(lists) > 0 {
		list = lists[0]
	}
	var all []result
	add := func(name string, value any, ok bool) { all = append(all, got(name, ok, value)) }
	add("IsKeep", impl.IsKeep(k), true)
	isSafe, ok := impl.IsSafe(k, b)
	add("IsSafe", isSafe, ok)
	now, ok := impl.DangersNow(k, b)
	add("DangersNow", now, ok)
	start, ok := impl.StartBank(k)
	add("StartBank", start, ok)
	end, ok := impl.EndBank(k)
	add("EndBank", end, ok)
	rides, ok := impl.RidesOf(k, b)
	add("RidesOf", rides, ok)
	there, ok := impl.RideOver(k, b, list)
	add("RideOver", there, ok)
	played, ok := impl.PlayRides(k, lists)
	add("PlayRides", played, ok)
	fewest, ok := impl.FewestRides(k)
	add("FewestRides", fewest, ok)
	first, ok := impl.FirstRides(k)
	add("FirstRides", first, ok)
	count, ok := impl.CountRides(k)
	add("CountRides", count, ok)
	seats, ok := impl.LeastSeats(k)
	add("LeastSeats", seats, ok)
	watched, ok := impl.LeastWatched(k)
	add("LeastWatched", watched, ok)
	safe, ok := impl.CountSafe(k)
	add("CountSafe", safe, ok)
	reached, ok := impl.CountReachedBanks(k)
	add("CountReachedBanks", reached, ok)
	more, ok := impl.WithDanger(k, i, j)
	add("WithDanger", more, ok)
	written, ok := impl.KeepText(k)
	add("KeepText", written, ok)
	parsed, ok := impl.ParseKeep(text)
	add("ParseKeep", parsed, ok)
	return all
}

func TestKeepsThatAreNone(t *testing.T) {
	for _, k := range badKeeps() {
		for _, things := range []int{0, 1, 3, 8, 9} {
			for _, b := range []impl.Bank{{Over: make([]bool, things)}, {Over: make([]bool, things), Keeper: true}} {
				for _, r := range callKeeps(k, b, [][]int{{1}}, 0, 2, "") {
					if r.name == "IsKeep" {
						r.ok = false
					}
					checkFails(t, []any{k, b}, r)
				}
			}
		}
	}
}

func TestBanksThatAreNone(t *testing.T) {
	k := keep(t, "3/1/01.12")
	for _, b := range badBanks() {
		for _, r := range callKeeps(k, b, [][]int{{1}}, 0, 2, "0/0/") {
			if slices.Contains([]string{"IsSafe", "DangersNow", "RidesOf", "RideOver"}, r.name) {
				checkFails(t, b, r)
			} else if !r.ok {
				t.Errorf("%s, which is told no bank, fails with %v", r.name, b)
			}
		}
	}
}

// Promise 11: a call that fails returns zero values, whatever the arguments are, and no call panics.
func TestKeepersAcceptAllArguments(t *testing.T) {
	numbers := []int{math.MinInt, -1, 0, 1, 3, 7, 8, math.MaxInt}
	lists := [][][]int{
		nil, {}, {nil}, {{}, {0}}, {{1}, {}, {0}}, {{-1}}, {{math.MinInt, math.MaxInt}}, {{0, 1, 2, 3, 4, 5, 6, 7, 8}}, {{1, 0}}, {{1, 1}}, {{1 << 62}},
		toAndFro(nil, 40), toAndFro(nil, 41), toAndFro([]int{1}, 40), make([][]int, 1000), {make([]int, 1000)},
	}
	texts := []string{"", "/", "//", "3/1/01.12", "9/1/", "3/1/\xff\x00", "////....", "99999999999999999999/1/"}
	for _, k := range slices.Concat(badKeeps(), keepsOf(3, 1), keepsOf(3, 2), keepsOf(2, 0), otherKeeps()[:8]) {
		banks := slices.Concat(badBanks(), allBanks(3), allBanks(2), allBanks(5)[:8])
		for n := range max(len(banks), len(lists), len(numbers)*len(numbers)) {
			b, l := banks[n%len(banks)], lists[n%len(lists)]
			for _, r := range callKeeps(k, b, l, numbers[n%len(numbers)], numbers[n/len(numbers)%len(numbers)], texts[n%len(texts)]) {
				if !r.ok {
					checkFails(t, []any{k, b, l}, r)
				}
			}
		}
	}
}

// Promise 11: arguments are not modified, neither by a call nor by what is done to its results, and spare capacity is neither read nor written.
func TestKeepersModifyNoArguments(t *testing.T) {
	for _, c := range []struct {
		keep, bank string
		lists      [][]int
		i, j       int
	}{
		{"0/0/", "<", [][]int{{}}, 0, 0},
		{"3/1/01.12", "...<", [][]int{{1}, {}, {0}}, 0, 2},
		{"3/1/01.12", "xxx>", [][]int{{1}, {}, {0}}, 2, 0},
		{"3/1/01.12", "...>", [][]int{{}, {0}}, 0, 1},
		{"4/2/", "x.x.>", [][]int{{0, 2}, {2, 0}}, 3, 1},
		{"5/3/01.02.03.04.12.34", "xx...>", [][]int{{0, 1}, {0}}, 1, 4},
		{"8/0/67", "........<", nil, 8, 8},
	} {
		k, b := keep(t, c.keep), bankOf(c.bank)
		w := makeSpare(impl.Party{}, asState(b), c.lists)
		w.dangers = spareLists(k.Dangers)
		mine := impl.Keep{Things: k.Things, Dangers: w.dangers, Seats: k.Seats}
		plain := callKeeps(k, b, c.lists, c.i, c.j, c.keep)
		checkArgumentsStay(t, c, w, plain, func() []result {
			return callKeeps(mine, impl.Bank{Over: w.s.Over, Keeper: w.s.Torch}, w.lists, c.i, c.j, c.keep)
		})
	}
}

func TestListsOfKeepersShareNoMemory(t *testing.T) {
	k := keep(t, "5/3/01.02.13.24")
	now, _ := impl.DangersNow(k, bankOf(".....>"))
	checkApart(t, now)
	rides, _ := impl.RidesOf(k, bankOf("xxxxx>"))
	checkApart(t, rides)
	plan, _ := impl.FirstRides(k)
	checkApart(t, plan)
	parsed, _ := impl.ParseKeep("5/3/01.02.13.24")
	checkApart(t, parsed.Dangers)
	more, _ := impl.WithDanger(k, 4, 3)
	checkApart(t, more.Dangers)
	if keepText(k) != "5/3/01.02.13.24" {
		t.Error(k)
	}
}

// What goroutines send does not depend on when they do.
func TestKeepersAreTheSameEachTime(t *testing.T) {
	for _, k := range otherKeeps()[:14] {
		k.Seats = 3
		b, _ := impl.StartBank(k)
		once := callKeeps(k, b, [][]int{{2, 3}}, 0, 1, "")
		for range 3 {
			if again := callKeeps(k, b, [][]int{{2, 3}}, 0, 1, ""); !reflect.DeepEqual(once, again) {
				t.Fatalf("%v: %v, and then %v", k, once, again)
			}
		}
	}
}

// No goroutine stays behind, whether the ride that is asked for is the first one, the last one or none.
func TestNoGoroutineStays(t *testing.T) {
	k := impl.Keep{Things: impl.MaxThings, Seats: impl.MaxThings}
	b, _ := impl.StartBank(k)
	before := runtime.NumGoroutine()
	for range 100 {
		for _, list := range [][]int{nil, {0}, {3, 5}, {7}, {8}, {1, 0}} {
			impl.RideOver(k, b, list)
			impl.PlayRides(k, [][]int{list, list})
		}
		impl.RidesOf(k, b)
	}
	// The last goroutine has told that it ends, but may not have done so yet.
	for n := 0; n < 1000 && runtime.NumGoroutine() > before; n++ {
		time.Sleep(time.Millisecond)
	}
	if after := runtime.NumGoroutine(); after > before {
		t.Errorf("%d goroutines before, and %d behind", before, after)
	}
}
