package tests

import (
	"math"
	"reflect"
	"slices"
	"testing"

	"loop.example/g01272/impl"
)

// callCouples calls all functions of chapter 4 with the same arguments. The numbers are couples, and guards and captives.
func callCouples(c impl.Company, s impl.State, lists [][]int, m int, n int) []result {
	var list []int
	if len(lists) > 0 {
		list = lists[0]
	}
	var all []result
	add := func(name string, value any, ok bool) { all = append(all, got(name, ok, value)) }
	add("IsCompany", impl.IsCompany(c), true)
	isCalmGroup, ok := impl.IsCalmGroup(c.Couples, list)
	add("IsCalmGroup", isCalmGroup, ok)
	isCalm, ok := impl.IsCalm(c, s)
	add("IsCalm", isCalm, ok)
	rows, ok := impl.RowsOf(c, s)
	add("RowsOf", rows, ok)
	there, ok := impl.RowBoat(c, s, list)
	add("RowBoat", there, ok)
	isPlan, ok := impl.IsCalmPlan(c, lists)
	add("IsCalmPlan", isPlan, ok)
	fewest, ok := impl.FewestRows(c)
	add("FewestRows", fewest, ok)
	first, ok := impl.FirstRows(c)
	add("FirstRows", first, ok)
	count, ok := impl.CountRows(c)
	add("CountRows", count, ok)
	calm, ok := impl.CountCalm(c)
	add("CountCalm", calm, ok)
	reached, ok := impl.CountCalmReached(c)
	add("CountCalmReached", reached, ok)
	seats, ok := impl.SeatsForCouples(c.Couples)
	add("SeatsForCouples", seats, ok)
	swapped, ok := impl.SwapCouples(c, lists, m, n)
	add("SwapCouples", swapped, ok)
	crossings, ok := impl.FewestForGuards(m, n, c.Seats)
	add("FewestForGuards", crossings, ok)
	guards, ok := impl.FirstForGuards(m, n, c.Seats)
	add("FirstForGuards", guards, ok)
	guardSeats, ok := impl.SeatsForGuards(m, n)
	add("SeatsForGuards", guardSeats, ok)
	guarded, ok := impl.CountGuarded(m, n)
	add("CountGuarded", guarded, ok)
	return all
}

func TestCompaniesThatAreNone(t *testing.T) {
	for _, c := range badCompanies() {
		couples := max(1, min(c.Couples, 4))
		for _, s := range []impl.State{{Over: make([]bool, 2*couples)}, {}, stateOf("x.>")} {
			for _, r := range callCouples(c, s, [][]int{{0, 1}}, 0, 0) {
				// These two are not told the seats.
				byCouples := r.name == "IsCalmGroup" || r.name == "SeatsForCouples"
				if byCouples && c.Couples == 2 || r.name == "IsCompany" {
					continue
				}
				checkFails(t, c, r)
			}
		}
	}
}

func TestStatesThatAreNoneOfCouples(t *testing.T) {
	c := impl.Company{Couples: 2, Seats: 2}
	for _, s := range badStates() {
		for _, r := range callCouples(c, s, [][]int{{1}}, 1, 1) {
			if slices.Contains([]string{"IsCalm", "RowsOf", "RowBoat"}, r.name) {
				checkFails(t, s, r)
			}
		}
	}
}

// Promise 11: a call that fails returns zero values, whatever the arguments are, and no call panics.
func TestCouplesAcceptAllArguments(t *testing.T) {
	numbers := []int{math.MinInt, -1, 0, 1, 3, 8, 9, math.MaxInt}
	lists := [][][]int{
		nil, {}, {nil}, {{}, {0}}, {{0, 1}}, {{-1}}, {{math.MinInt, math.MaxInt}}, {{0, 1, 2, 3, 4, 5, 6, 7, 8}}, {{1, 0}}, {{1, 1}}, {{1 << 62}},
		longRows(5), longRows(39), longRows(41), make([][]int, 1000), {make([]int, 1000)},
	}
	for _, c := range append(badCompanies(), allCompanies()...) {
		states := badStates()
		for people := 2; people <= 8; people += 2 {
			states = append(states, impl.State{Over: make([]bool, people)}, impl.State{Over: slices.Repeat([]bool{true, false}, people/2)})
		}
		for i := range max(len(states), len(lists), len(numbers)*len(numbers)) {
			s, l := states[i%len(states)], lists[i%len(lists)]
			for _, r := range callCouples(c, s, l, numbers[i%len(numbers)], numbers[i/len(numbers)%len(numbers)]) {
				if !r.ok {
					checkFails(t, []any{c, s, l}, r)
				}
			}
		}
	}
}

// Promise 11: arguments are not modified, neither by a call nor by what is done to its results, and spare capacity is neither read nor written.
func TestCouplesModifyNoArguments(t *testing.T) {
	for _, c := range []struct {
		couples, seats int
		state          string
		lists          [][]int
		m, n           int
	}{
		{1, 2, "..<", [][]int{{0, 1}}, 0, 0},
		{2, 2, "....<", longRows(5), 0, 1},
		{2, 2, "xxxx>", longRows(7), 1, 1},
		{2, 2, "xx..>", [][]int{{0}, {0, 2}}, 1, 0},
		{3, 3, "xxx...<", [][]int{{0, 1}, {2, 1, 0}}, 3, 3},
		{4, 4, "xx......<", [][]int{{2, 4, 6}}, 8, 8},
	} {
		company := impl.Company{Couples: c.couples, Seats: c.seats}
		w := makeSpare(impl.Party{}, stateOf(c.state), c.lists)
		plain := callCouples(company, stateOf(c.state), c.lists, c.m, c.n)
		checkArgumentsStay(t, c, w, plain, func() []result { return callCouples(company, w.s, w.lists, c.m, c.n) })
	}
}

func TestListsOfCouplesShareNoMemory(t *testing.T) {
	c := impl.Company{Couples: 4, Seats: 4}
	rows, _ := impl.RowsOf(c, stateOf("........<"))
	checkApart(t, rows)
	plan, _ := impl.FirstRows(impl.Company{Couples: 3, Seats: 2})
	checkApart(t, plan)
	crossings, _ := impl.FirstForGuards(8, 8, 4)
	checkApart(t, crossings)
	once, twice := []int{1}, []int{0, 1}
	lists := append([][]int{once, once, once, once}, twice, []int{0}, []int{0, 2}, once, []int{1, 3})
	same, ok := impl.SwapCouples(impl.Company{Couples: 2, Seats: 2}, lists, 0, 0)
	if !ok || !sameLists(same, lists) || &same[0][0] == &once[0] {
		t.Error("swapped", same, ok)
	}
	checkApart(t, same)
}

// What depends on no order in which a map is gone through is the same each time.
func TestCouplesAreTheSameEachTime(t *testing.T) {
	for _, c := range allCompanies() {
		s := impl.State{Over: make([]bool, 2*c.Couples)}
		once := callCouples(c, s, nil, 8, 7)
		for range 3 {
			if again := callCouples(c, s, nil, 8, 7); !reflect.DeepEqual(once, again) {
				t.Fatalf("%v: %v, and then %v", c, once, again)
			}
		}
	}
}
