package tests

import (
	"math"
	"slices"
	"testing"

	"loop.example/g01272/impl"
)

// stride is one move over a river, told as a list, with the state behind it.
type stride[S comparable] struct {
	list  []int
	there S
}

// stage is a state from which so many moves are left.
type stage[S comparable] struct {
	at   S
	left int
}

// ferry tells of ways to the last state by trying how many of each length there are.
type ferry[S comparable] struct {
	last    S
	strides func(S) []stride[S]
	counts  map[stage[S]]int
	known   map[S][]stride[S]
}

func makeFerry[S comparable](last S, strides func(S) []stride[S]) ferry[S] {
	return ferry[S]{last, strides, map[stage[S]]int{}, map[S][]stride[S]{}}
}

func (f ferry[S]) stridesIn(at S) []stride[S] {
	list, ok := f.known[at]
	if !ok {
		list = f.strides(at)
		f.known[at] = list
	}
	return list
}

// countIn is how many lists of just so many moves lead from a state to the last one.
func (f ferry[S]) countIn(at S, left int) int {
	if left == 0 {
		if at == f.last {
			return 1
		}
		return 0
	}
	count, ok := f.counts[stage[S]{at, left}]
	if !ok {
		for _, s := range f.stridesIn(at) {
			count += f.countIn(s.there, left-1)
		}
		f.counts[stage[S]{at, left}] = count
	}
	return count
}

// fewest is the least number of moves from a state to the last one, if it is at most so many, or -1.
func (f ferry[S]) fewest(at S, most int) int {
	for moves := range most + 1 {
		if f.countIn(at, moves) > 0 {
			return moves
		}
	}
	return -1
}

// firstIn is the lexicographically first list of just so many moves from a state to the last one. There has to be one.
func (f ferry[S]) firstIn(at S, left int) [][]int {
	var lists [][]int
	for ; left > 0; left-- {
		list := f.stridesIn(at)
		n := slices.IndexFunc(list, func(s stride[S]) bool { return f.countIn(s.there, left-1) > 0 })
		lists = append(lists, list[n].list)
		at = list[n].there
	}
	return lists
}

// reached is how many states are reached from one, this with them.
func (f ferry[S]) reached(from S) int {
	seen := map[S]bool{from: true}
	for edge := []S{from}; len(edge) > 0; edge = edge[1:] {
		for _, s := range f.stridesIn(edge[0]) {
			if !seen[s.there] {
				seen[s.there] = true
				edge = append(edge, s.there)
			}
		}
	}
	return len(seen)
}

// calmList tells by the words of the definition whether a group is calm.
func calmList(group []int) bool {
	for _, kept := range group {
		for _, keeper := range group {
			if kept%2 == 1 && keeper%2 == 0 && keeper != kept-1 && !slices.Contains(group, kept-1) {
				return false
			}
		}
	}
	return true
}

func calmState(s impl.State) bool {
	var sides [2][]int
	for k, over := range s.Over {
		if over {
			sides[1] = append(sides[1], k)
		} else {
			sides[0] = append(sides[0], k)
		}
	}
	return calmList(sides[0]) && calmList(sides[1])
}

// rowsBySets are the rows in a calm state found by going through all sets of people.
func rowsBySets(c impl.Company, s impl.State) []stride[string] {
	var rows []stride[string]
	for _, trip := range tripsBySets(impl.Party{Times: make([]int, 2*c.Couples), Seats: c.Seats}, s) {
		there := behind(s, trip)
		if calmList(trip) && calmState(stateOf(there)) {
			rows = append(rows, stride[string]{trip, there})
		}
	}
	return rows
}

// endsOf are the texts of the states in which nobody and in which everybody is over.
func endsOf(c impl.Company) (string, string) {
	nobody, all := make([]bool, 2*c.Couples), slices.Repeat([]bool{true}, 2*c.Couples)
	return textOf(impl.State{Over: nobody}), textOf(impl.State{Over: all, Torch: true})
}

func ferryOf(c impl.Company) ferry[string] {
	_, last := endsOf(c)
	return makeFerry(last, func(at string) []stride[string] { return rowsBySets(c, stateOf(at)) })
}

func allCompanies() []impl.Company {
	var list []impl.Company
	for couples := 1; couples <= impl.MaxCouples; couples++ {
		for seats := 1; seats <= impl.MaxBoat; seats++ {
			list = append(list, impl.Company{Couples: couples, Seats: seats})
		}
	}
	return list
}

// badCompanies have a number that is none.
func badCompanies() []impl.Company {
	var list []impl.Company
	for _, n := range []int{0, -1, 5, math.MinInt, math.MaxInt, math.MaxInt/2 + 2} {
		list = append(list, impl.Company{Couples: n, Seats: 2}, impl.Company{Couples: 2, Seats: n}, impl.Company{Couples: n, Seats: n})
	}
	return list
}

// playRows checks that lists are rows one after the other, and returns the state behind them.
func playRows(t *testing.T, c impl.Company, lists [][]int) string {
	t.Helper()
	first, _ := endsOf(c)
	at := stateOf(first)
	for _, list := range lists {
		if rows, ok := impl.RowsOf(c, at); !ok || !slices.ContainsFunc(rows, func(row []int) bool { return slices.Equal(row, list) }) {
			t.Fatalf("RowsOf(%v, %s) = %v, %v without %v", c, textOf(at), rows, ok, list)
		}
		there, ok := impl.RowBoat(c, at, list)
		if !ok || textOf(there) != behind(at, list) || !calmList(list) || !calmState(there) {
			t.Fatalf("RowBoat(%v, %s, %v) = %v, %v", c, textOf(at), list, there, ok)
		}
		at = there
	}
	return textOf(at)
}

func TestExampleOfChapter4(t *testing.T) {
	for _, c := range []struct{ couples, seats, rows int }{{1, 2, 1}, {2, 2, 5}, {3, 2, 11}, {4, 2, 0}, {4, 3, 9}} {
		if n, ok := impl.FewestRows(impl.Company{Couples: c.couples, Seats: c.seats}); n != c.rows || ok != (c.rows > 0) {
			t.Error("rows", c, n, ok)
		}
	}
	if n, ok := impl.SeatsForCouples(4); n != 3 || !ok {
		t.Error("seats", n, ok)
	}
	if is, ok := impl.IsCalmGroup(2, []int{0, 3}); is || !ok {
		t.Error("0 and 3", is, ok)
	}
	if is, ok := impl.IsCalmGroup(2, []int{1, 3}); !is || !ok {
		t.Error("1 and 3", is, ok)
	}
	if n, ok := impl.FewestForGuards(3, 3, 2); n != 11 || !ok {
		t.Error("crossings", n, ok)
	}
	if list, ok := impl.FirstForGuards(3, 3, 2); !ok || len(list) != 11 || !slices.Equal(list[0], []int{0, 2}) {
		t.Error("first crossings", list, ok)
	}
}

// Promise 4: first calm plans are of the fewest rows.
func TestPlansOfAllCompanies(t *testing.T) {
	for _, c := range allCompanies() {
		f := ferryOf(c)
		first, last := endsOf(c)
		rows, count, plan := f.fewest(first, impl.MaxTrips), 0, [][]int{}
		has := rows >= 0
		if has {
			count, plan = f.countIn(first, rows), f.firstIn(first, rows)
		}
		if n, ok := impl.FewestRows(c); n != max(0, rows) || ok != has {
			t.Errorf("FewestRows(%v) = %v, %v, want %v", c, n, ok, rows)
		}
		if n, ok := impl.CountRows(c); n != count || !ok {
			t.Errorf("CountRows(%v) = %v, %v, want %v", c, n, ok, count)
		}
		if n, ok := impl.CountCalmReached(c); n != f.reached(first) || !ok {
			t.Errorf("CountCalmReached(%v) = %v, %v, want %v", c, n, ok, f.reached(first))
		}
		lists, ok := impl.FirstRows(c)
		if !sameLists(lists, plan) || ok != has {
			t.Fatalf("FirstRows(%v) = %v, %v, want %v, %v", c, lists, ok, plan, has)
		}
		if is, fine := impl.IsCalmPlan(c, lists); is != has || !fine {
			t.Errorf("IsCalmPlan(%v, %v) = %v, %v", c, lists, is, fine)
		}
		if end := playRows(t, c, lists); has && (end != last || len(lists) != rows) {
			t.Errorf("%v: %v lead to %s", c, lists, end)
		}
	}
}

// checkRow checks what RowBoat answers for a list that is a row just if so told.
func checkRow(t *testing.T, c impl.Company, s impl.State, list []int, isRow bool) {
	t.Helper()
	there, ok := impl.RowBoat(c, s, list)
	if ok != isRow || !ok && !isZeroState(there) || ok && textOf(there) != behind(s, list) {
		t.Fatalf("RowBoat(%v, %s, %v) = %v, %v", c, textOf(s), list, there, ok)
	}
	if !ok {
		return
	}
	if back, fine := impl.RowBoat(c, there, list); !fine || !sameState(back, s) {
		t.Fatalf("RowBoat(%v, %s, %v) = %v, %v", c, textOf(there), list, back, fine)
	}
}

// All states: those that are not calm, and those that are not reached, with them.
func TestRowsOfAllCalmStates(t *testing.T) {
	for _, c := range allCompanies() {
		calm := 0
		for _, s := range allStates(2 * c.Couples) {
			is, ok := impl.IsCalm(c, s)
			if is != calmState(s) || !ok {
				t.Fatalf("IsCalm(%v, %s) = %v, %v", c, textOf(s), is, ok)
			}
			var want [][]int
			if is {
				calm++
				for _, row := range rowsBySets(c, s) {
					want = append(want, row.list)
				}
			}
			if rows, ok := impl.RowsOf(c, s); ok != is || !sameLists(rows, want) {
				t.Fatalf("RowsOf(%v, %s) = %v, %v, want %v, %v", c, textOf(s), rows, ok, want, is)
			}
			// With one seat more there are lists, too, that are no rows because they are too long.
			for i, trip := range tripsBySets(impl.Party{Times: make([]int, 2*c.Couples), Seats: c.Seats + 1}, s) {
				isRow := slices.ContainsFunc(want, func(row []int) bool { return slices.Equal(row, trip) })
				if isRow || c.Couples < 4 || i%7 == 0 {
					checkRow(t, c, s, trip, isRow)
				}
			}
		}
		if n, ok := impl.CountCalm(c); n != calm || !ok {
			t.Errorf("CountCalm(%v) = %v, %v, want %v", c, n, ok, calm)
		}
	}
}

func TestRowsOfSomeStates(t *testing.T) {
	for _, k := range []struct {
		couples, seats int
		state          string
		calm           bool
		rows           [][]int
	}{
		{2, 2, "....<", true, [][]int{{0, 1}, {0, 2}, {1}, {1, 3}, {2, 3}, {3}}},
		{2, 2, "xxxx>", true, [][]int{{0, 1}, {0, 2}, {1}, {1, 3}, {2, 3}, {3}}},
		{2, 1, "....<", true, [][]int{{1}, {3}}},
		{2, 2, "xx..<", true, [][]int{{2}, {2, 3}}},
		{2, 2, "xx..>", true, [][]int{{0}, {0, 1}}},
		{2, 2, ".x.x<", true, [][]int{{0, 2}}},
		{2, 2, "x.x.>", true, [][]int{{0, 2}}},
		{2, 2, "x...<", false, nil},
		{2, 2, "..x.>", false, nil},
		{2, 2, "xx.x>", false, nil},
		{2, 4, "x..x<", false, nil},
		// With one seat this one is calm, but is not reached.
		{2, 1, "xx..<", true, [][]int{{2}}},
		// Nor is this one, and no row leads out of it: two seats are not enough for three keepers.
		{3, 2, "x.x.x.>", true, nil},
		{3, 3, "x.x.x.>", true, [][]int{{0, 2, 4}}},
		{1, 1, ".<", false, nil},
	} {
		c, s := impl.Company{Couples: k.couples, Seats: k.seats}, stateOf(k.state)
		isState := len(s.Over) == 2*k.couples
		if is, ok := impl.IsCalm(c, s); is != k.calm || ok != isState {
			t.Error("calm", k, is, ok)
		}
		if rows, ok := impl.RowsOf(c, s); ok != k.calm || !sameLists(rows, k.rows) {
			t.Error("rows", k, rows, ok)
		}
	}
}

func TestRowsThatAreNone(t *testing.T) {
	c := impl.Company{Couples: 2, Seats: 2}
	for _, k := range []struct {
		state string
		list  []int
	}{
		{"....<", nil}, {"....<", []int{}}, {"....<", []int{0}}, {"....<", []int{0, 3}}, {"....<", []int{1, 0}}, {"....<", []int{1, 1}},
		{"....<", []int{-1}}, {"....<", []int{4}}, {"....<", []int{3, 4}}, {"....<", []int{0, 1, 2}}, {"....<", []int{0, 1, 2, 3}},
		{"....<", []int{math.MinInt, math.MaxInt}}, {"....<", []int{math.MaxInt}}, {"....<", make([]int, 100)},
		{".x..<", []int{1}}, {".x..<", []int{0, 1}}, {".x..>", []int{0}}, {"xx..>", []int{1}}, {"xx..>", []int{2, 3}},
		{"x...<", []int{1}}, {"xx.x>", []int{3}},
	} {
		if there, ok := impl.RowBoat(c, stateOf(k.state), k.list); ok || !isZeroState(there) {
			t.Errorf("RowBoat(%v, %s, %v) = %v, %v", c, k.state, k.list, there, ok)
		}
	}
}

func TestCalmGroups(t *testing.T) {
	for couples := 1; couples <= impl.MaxCouples; couples++ {
		for set := range 1 << (2 * couples) {
			var group []int
			for k := range 2 * couples {
				if set>>k&1 == 1 {
					group = append(group, k)
				}
			}
			if is, ok := impl.IsCalmGroup(couples, group); is != calmList(group) || !ok {
				t.Errorf("IsCalmGroup(%d, %v) = %v, %v", couples, group, is, ok)
			}
		}
	}
	for _, c := range []struct {
		group []int
		want  bool
	}{
		{nil, true}, {[]int{}, true}, {[]int{3}, true}, {[]int{0, 2, 4}, true}, {[]int{1, 3, 5}, true}, {[]int{0, 1, 2}, true},
		{[]int{0, 1, 2, 3, 4, 5}, true}, {[]int{1, 2}, false}, {[]int{0, 1, 3}, false}, {[]int{1, 3, 4}, false}, {[]int{0, 1, 2, 3, 5}, false},
	} {
		if is, ok := impl.IsCalmGroup(3, c.group); is != c.want || !ok {
			t.Errorf("IsCalmGroup(3, %v) = %v, %v", c.group, is, ok)
		}
	}
}

func TestGroupsThatAreNone(t *testing.T) {
	for _, group := range [][]int{
		{0, 0}, {1, 0}, {0, 2, 1}, {-1}, {-1, 0}, {4}, {1, 3, 4}, {math.MinInt}, {math.MaxInt}, {math.MinInt, math.MaxInt}, {0, 1, 2, 3, 4}, make([]int, 100),
	} {
		if is, ok := impl.IsCalmGroup(2, group); is || ok {
			t.Errorf("IsCalmGroup(2, %v) = %v, %v", group, is, ok)
		}
	}
	for _, couples := range []int{0, -1, 5, math.MinInt, math.MaxInt, 1<<62 + 1} {
		for _, group := range [][]int{nil, {0}, {0, 1}} {
			if is, ok := impl.IsCalmGroup(couples, group); is || ok {
				t.Errorf("IsCalmGroup(%d, %v) = %v, %v", couples, group, is, ok)
			}
		}
	}
}

func TestIsCompany(t *testing.T) {
	for _, c := range allCompanies() {
		if !impl.IsCompany(c) {
			t.Error(c, "is none")
		}
	}
	for _, c := range badCompanies() {
		if impl.IsCompany(c) {
			t.Error(c, "is one")
		}
	}
}

func TestOneCouple(t *testing.T) {
	for seats := 1; seats <= impl.MaxBoat; seats++ {
		c := impl.Company{Couples: 1, Seats: seats}
		has, reached, rows := seats > 1, 6, 1
		if !has {
			reached, rows = 3, 0
		}
		if n, ok := impl.FewestRows(c); n != rows || ok != has {
			t.Error("rows", c, n, ok)
		}
		if n, ok := impl.CountRows(c); n != rows || !ok {
			t.Error("count", c, n, ok)
		}
		if lists, ok := impl.FirstRows(c); ok != has || len(lists) != rows || has && !slices.Equal(lists[0], []int{0, 1}) {
			t.Error("first", c, lists, ok)
		}
		if n, ok := impl.CountCalm(c); n != 6 || !ok {
			t.Error("calm", c, n, ok)
		}
		if n, ok := impl.CountCalmReached(c); n != reached || !ok {
			t.Error("reached", c, n, ok)
		}
		if is, ok := impl.IsCalmPlan(c, [][]int{{0, 1}}); is != has || !ok {
			t.Error("plan", c, is, ok)
		}
	}
}

// With one seat one can only row over and back, and four couples cannot all get over with two.
func TestCompaniesWithoutPlan(t *testing.T) {
	for _, c := range []struct{ couples, seats, reached int }{{1, 1, 3}, {2, 1, 3}, {3, 1, 4}, {4, 1, 5}, {4, 2, 44}} {
		company := impl.Company{Couples: c.couples, Seats: c.seats}
		if n, ok := impl.FewestRows(company); n != 0 || ok {
			t.Error("rows", c, n, ok)
		}
		if lists, ok := impl.FirstRows(company); len(lists) != 0 || ok {
			t.Error("first", c, lists, ok)
		}
		if n, ok := impl.CountRows(company); n != 0 || !ok {
			t.Error("count", c, n, ok)
		}
		if n, ok := impl.CountCalmReached(company); n != c.reached || !ok {
			t.Error("reached", c, n, ok)
		}
	}
}

func TestSeatsForCouples(t *testing.T) {
	for couples, want := range map[int]int{1: 2, 2: 2, 3: 2, 4: 3} {
		if n, ok := impl.SeatsForCouples(couples); n != want || !ok {
			t.Error(couples, n, ok)
		}
	}
	for _, couples := range []int{0, -1, 5, math.MinInt, math.MaxInt} {
		if n, ok := impl.SeatsForCouples(couples); n != 0 || ok {
			t.Error(couples, n, ok)
		}
	}
}

// longRows is a calm plan of two couples with two seats: so many rows, an odd number of at least 5.
func longRows(rows int) [][]int {
	var list [][]int
	for len(list)+5 < rows {
		list = append(list, []int{1}, []int{1})
	}
	return append(list, []int{0, 1}, []int{0}, []int{0, 2}, []int{1}, []int{1, 3})
}

func TestIsCalmPlan(t *testing.T) {
	c := impl.Company{Couples: 2, Seats: 2}
	good := longRows(5)
	for _, k := range []struct {
		lists [][]int
		want  bool
	}{
		{good, true},
		{longRows(7), true},
		{longRows(39), true},
		{append(longRows(5), []int{0, 2}, []int{0, 2}), true},
		{nil, false},
		{[][]int{}, false},
		{[][]int{nil}, false},
		{good[:4], false},
		{good[1:], false},
		{append(longRows(5), []int{0, 2}), false},
		{append(longRows(39), []int{0, 2}), false},
		{[][]int{{0, 1}, {0}, {0, 2}, {0}, {0, 3}}, false},
		{[][]int{{0, 1}, {0}, {0, 2}, {1}, {3, 1}}, false},
		{[][]int{{0, 1, 2, 3}}, false},
		{[][]int{{0, 1}, {1}, {1, 2}, {0}, {0, 3}}, false},
		{[][]int{{-1}}, false},
		{[][]int{{math.MinInt, math.MaxInt}}, false},
		{make([][]int, impl.MaxTrips), false},
	} {
		if is, ok := impl.IsCalmPlan(c, k.lists); is != k.want || !ok {
			t.Errorf("IsCalmPlan(%v, %v) = %v, %v", c, k.lists, is, ok)
		}
	}
	for _, lists := range [][][]int{longRows(41), make([][]int, 41), make([][]int, 1000)} {
		if is, ok := impl.IsCalmPlan(c, lists); is || ok {
			t.Errorf("IsCalmPlan(%v, %v) = %v, %v", c, lists, is, ok)
		}
	}
	for _, c := range badCompanies() {
		if is, ok := impl.IsCalmPlan(c, good); is || ok {
			t.Errorf("IsCalmPlan(%v, %v) = %v, %v", c, good, is, ok)
		}
	}
}

// exchanged are the lists with the people of two couples taken for each other.
func exchanged(lists [][]int, i int, j int) [][]int {
	other := map[int]int{2 * i: 2 * j, 2*i + 1: 2*j + 1, 2 * j: 2 * i, 2*j + 1: 2*i + 1}
	var all [][]int
	for _, list := range lists {
		var changed []int
		for _, k := range list {
			if to, ok := other[k]; ok {
				k = to
			}
			changed = append(changed, k)
		}
		slices.Sort(changed)
		all = append(all, changed)
	}
	return all
}

func TestSwapCouples(t *testing.T) {
	for _, c := range allCompanies() {
		plan, has := impl.FirstRows(c)
		for i := range c.Couples {
			for j := range c.Couples {
				other, ok := impl.SwapCouples(c, plan, i, j)
				if ok != has || !sameLists(other, exchanged(plan, i, j)) {
					t.Fatalf("SwapCouples(%v, %v, %d, %d) = %v, %v", c, plan, i, j, other, ok)
				}
				if is, ok := impl.IsCalmPlan(c, other); is != has || !ok {
					t.Fatalf("IsCalmPlan(%v, %v) = %v, %v", c, other, is, ok)
				}
				if again, ok := impl.SwapCouples(c, other, i, j); ok != has || !sameLists(again, plan) {
					t.Fatalf("SwapCouples(%v, %v, %d, %d) = %v, %v", c, other, i, j, again, ok)
				}
			}
		}
	}
	c := impl.Company{Couples: 2, Seats: 2}
	want := [][]int{{2, 3}, {2}, {0, 2}, {3}, {1, 3}}
	if plan, ok := impl.SwapCouples(c, longRows(5), 0, 1); !ok || !sameLists(plan, want) {
		t.Error(plan, ok)
	}
	if plan, ok := impl.SwapCouples(c, longRows(39), 1, 1); !ok || !sameLists(plan, longRows(39)) {
		t.Error(plan, ok)
	}
}

func TestSwapsThatFail(t *testing.T) {
	c := impl.Company{Couples: 2, Seats: 2}
	good := longRows(5)
	for _, k := range []int{-1, 2, 3, 4, math.MinInt, math.MaxInt} {
		for _, pair := range [][2]int{{k, 0}, {1, k}, {k, k}} {
			if plan, ok := impl.SwapCouples(c, good, pair[0], pair[1]); len(plan) != 0 || ok {
				t.Error("couples", pair, plan, ok)
			}
		}
	}
	for _, lists := range [][][]int{nil, {nil}, good[:4], good[1:], {{0, 1, 2, 3}}, {{-1}}, {{math.MaxInt}}, longRows(41), make([][]int, 41)} {
		for i := range 2 {
			if plan, ok := impl.SwapCouples(c, lists, i, 1); len(plan) != 0 || ok {
				t.Error("lists", lists, plan, ok)
			}
		}
	}
	for _, c := range badCompanies() {
		if plan, ok := impl.SwapCouples(c, good, 0, 0); len(plan) != 0 || ok {
			t.Error("company", c, plan, ok)
		}
	}
}
