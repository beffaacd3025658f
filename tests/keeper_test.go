package tests

import (
	"math"
	"slices"
	"testing"

	"loop.example/g01272/impl"
)

// bankOf reads a bank told as states are, with the keeper in the place of the torch.
func bankOf(text string) impl.Bank {
	s := stateOf(text)
	return impl.Bank{Over: s.Over, Keeper: s.Torch}
}

// asState is a bank as a state, the keeper being the torch: it may be alone on its side.
func asState(b impl.Bank) impl.State { return impl.State{Over: b.Over, Torch: b.Keeper} }

func bankText(b impl.Bank) string { return textOf(asState(b)) }

func isZeroBank(b impl.Bank) bool { return len(b.Over) == 0 && !b.Keeper }

func isZeroKeep(k impl.Keep) bool { return k.Things == 0 && len(k.Dangers) == 0 && k.Seats == 0 }

func sameKeep(a, b impl.Keep) bool {
	return a.Things == b.Things && a.Seats == b.Seats && sameLists(a.Dangers, b.Dangers)
}

// pairsOf are all pairs of two of so many things, in order: all dangers that there may be.
func pairsOf(things int) [][]int {
	var list [][]int
	for i := range things {
		for j := i + 1; j < things; j++ {
			list = append(list, []int{i, j})
		}
	}
	return list
}

// chosen are the pairs whose bit is set.
func chosen(pairs [][]int, set int) [][]int {
	var list [][]int
	for n, pair := range pairs {
		if set>>n&1 == 1 {
			list = append(list, pair)
		}
	}
	return list
}

// keepsOf are all keeps of so many things with so many seats.
func keepsOf(things, seats int) []impl.Keep {
	var list []impl.Keep
	pairs := pairsOf(things)
	for set := range 1 << len(pairs) {
		list = append(list, impl.Keep{Things: things, Dangers: chosen(pairs, set), Seats: seats})
	}
	return list
}

// smallKeeps are all keeps of at most four things with at most one seat more than these, and with MaxThings seats.
func smallKeeps() []impl.Keep {
	var list []impl.Keep
	for things := range 5 {
		for seats := range things + 2 {
			list = append(list, keepsOf(things, seats)...)
		}
		list = append(list, keepsOf(things, impl.MaxThings)...)
	}
	return list
}

// badKeeps have a number or a list that is none. All but the first ones, in which it is Seats, have two or more things.
func badKeeps() []impl.Keep {
	var list []impl.Keep
	for _, seats := range []int{-1, impl.MaxThings + 1, math.MinInt, math.MaxInt} {
		list = append(list, impl.Keep{Seats: seats}, impl.Keep{Things: 3, Dangers: [][]int{{0, 1}}, Seats: seats})
	}
	for _, things := range []int{-1, impl.MaxThings + 1, math.MinInt, math.MaxInt} {
		list = append(list, impl.Keep{Things: things}, impl.Keep{Things: things, Seats: 1}, impl.Keep{Things: things, Dangers: [][]int{{0, 1}}, Seats: 2})
	}
	for _, dangers := range [][][]int{
		{{1, 2}, {0, 1}}, {{0, 2}, {0, 1}}, {{0, 1}, {1, 2}, {0, 2}}, {{0, 1}, {0, 1}}, {{0, 1}, {0, 2}, {0, 2}}, {{0, 1}, {1, 2}, {0, 1}},
		{nil}, {{}}, {{0}}, {{2}}, {{0, 1, 2}}, {{0, 1}, {0, 1, 2}}, {{0, 1}, nil}, {{0, 1}, {1}},
		{{0, 0}}, {{2, 2}}, {{1, 0}}, {{0, 1}, {2, 1}}, {{0, 3}}, {{2, 3}}, {{3, 4}}, {{-1, 0}}, {{-2, -1}}, {{0, -1}},
		{{0, math.MaxInt}}, {{math.MinInt, 0}}, {{math.MinInt, math.MaxInt}}, {{math.MaxInt, math.MinInt}}, {{math.MinInt}}, {make([]int, 1000)}, make([][]int, 1000),
	} {
		list = append(list, impl.Keep{Things: 3, Dangers: dangers, Seats: 1})
	}
	return append(list, impl.Keep{Dangers: [][]int{{0, 1}}}, impl.Keep{Things: 1, Dangers: [][]int{{0, 1}}}, impl.Keep{Things: 8, Dangers: [][]int{{0, 8}}})
}

// badBanks are no banks of three things.
func badBanks() []impl.Bank {
	return []impl.Bank{
		{}, {Keeper: true}, {Over: []bool{}}, bankOf("..<"), bankOf("xx>"), bankOf("....<"), bankOf("xxxx>"), {Over: make([]bool, 1000)},
	}
}

// allBanks are all banks of so many things: the keeper may be alone on either side.
func allBanks(things int) []impl.Bank {
	var list []impl.Bank
	for set := range 1 << things {
		for _, keeper := range []bool{false, true} {
			b := impl.Bank{Over: make([]bool, things), Keeper: keeper}
			for i := range things {
				b.Over[i] = set>>i&1 == 1
			}
			list = append(list, b)
		}
	}
	return list
}

// dangersIn tells by the words of the document which dangers there are in a bank.
func dangersIn(k impl.Keep, b impl.Bank) [][]int {
	var list [][]int
	for _, danger := range k.Dangers {
		without := true
		for _, thing := range danger {
			without = without && b.Over[thing] != b.Keeper
		}
		if without {
			list = append(list, danger)
		}
	}
	return list
}

// setsOf are all increasing lists of so many things, in order, that of none first.
func setsOf(things int) [][]int {
	var lists [][]int
	for set := range 1 << things {
		var list []int
		for i := range things {
			if set>>i&1 == 1 {
				list = append(list, i)
			}
		}
		lists = append(lists, list)
	}
	slices.SortFunc(lists, slices.Compare[[]int])
	return lists
}

// isRide tells by the words of the document whether an increasing list of things is a ride in a bank.
func isRide(k impl.Keep, b impl.Bank, list []int) bool {
	if len(list) > k.Seats || slices.ContainsFunc(list, func(thing int) bool { return b.Over[thing] != b.Keeper }) {
		return false
	}
	return len(dangersIn(k, bankOf(behind(asState(b), list)))) == 0
}

func ridesBySets(k impl.Keep, b impl.Bank) []stride[string] {
	var rides []stride[string]
	for _, list := range setsOf(k.Things) {
		if isRide(k, b, list) {
			rides = append(rides, stride[string]{list, behind(asState(b), list)})
		}
	}
	return rides
}

func TestExampleOfChapter5(t *testing.T) {
	k, ok := impl.ParseKeep("3/1/01.12")
	if !ok || !sameKeep(k, impl.Keep{Things: 3, Dangers: [][]int{{0, 1}, {1, 2}}, Seats: 1}) {
		t.Error("keep", k, ok)
	}
	if n, ok := impl.FewestRides(k); n != 7 || !ok {
		t.Error("fewest", n, ok)
	}
	plan := [][]int{{1}, {}, {0}, {1}, {2}, {}, {1}}
	if lists, ok := impl.FirstRides(k); !ok || !sameLists(lists, plan) {
		t.Error("first", lists, ok)
	}
	if n, ok := impl.CountRides(k); n != 2 || !ok {
		t.Error("count", n, ok)
	}
	if list, ok := impl.LeastWatched(k); !ok || !slices.Equal(list, []int{1}) {
		t.Error("watched", list, ok)
	}
	if n, ok := impl.LeastSeats(k); n != 1 || !ok {
		t.Error("seats", n, ok)
	}
	if n, ok := impl.CountSafe(k); n != 10 || !ok {
		t.Error("safe", n, ok)
	}
	if n, ok := impl.CountReachedBanks(k); n != 10 || !ok {
		t.Error("reached", n, ok)
	}
	if text, ok := impl.KeepText(k); text != "3/1/01.12" || !ok {
		t.Error("text", text, ok)
	}
}

func TestIsKeep(t *testing.T) {
	for _, k := range smallKeeps() {
		if !impl.IsKeep(k) {
			t.Error(k, "is none")
		}
	}
	for _, k := range []impl.Keep{
		{}, {Dangers: [][]int{}}, {Seats: 8}, {Things: 8}, {Things: 8, Seats: 8}, {Things: 8, Dangers: pairsOf(8)}, {Things: 8, Dangers: pairsOf(8), Seats: 8},
		{Things: 8, Dangers: [][]int{{0, 7}, {6, 7}}, Seats: 3},
	} {
		if !impl.IsKeep(k) {
			t.Error(k, "is none")
		}
	}
	for _, k := range badKeeps() {
		if impl.IsKeep(k) {
			t.Error(k, "is one")
		}
	}
}

func TestStartAndEndBank(t *testing.T) {
	for things := range impl.MaxThings + 1 {
		start, end := impl.Bank{Over: make([]bool, things)}, impl.Bank{Over: slices.Repeat([]bool{true}, things), Keeper: true}
		for seats := range impl.MaxThings + 1 {
			k := impl.Keep{Things: things, Dangers: pairsOf(things), Seats: seats}
			if b, ok := impl.StartBank(k); !ok || bankText(b) != bankText(start) {
				t.Error("start", k, b, ok)
			}
			if b, ok := impl.EndBank(k); !ok || bankText(b) != bankText(end) {
				t.Error("end", k, b, ok)
			}
			for _, b := range []impl.Bank{start, end} {
				if is, ok := impl.IsSafe(k, b); !is || !ok {
					t.Error("safe", k, b, is, ok)
				}
			}
		}
	}
}

// checkRides checks what is told of rides in a bank, safe or not.
func checkRides(t *testing.T, k impl.Keep, b impl.Bank) {
	t.Helper()
	var want [][]int
	for _, ride := range ridesBySets(k, b) {
		want = append(want, ride.list)
	}
	if rides, ok := impl.RidesOf(k, b); !ok || !sameLists(rides, want) {
		t.Fatalf("RidesOf(%v, %s) = %v, %v, want %v", k, bankText(b), rides, ok, want)
	}
	for _, list := range setsOf(k.Things) {
		there, ok := impl.RideOver(k, b, list)
		if is := isRide(k, b, list); ok != is || !ok && !isZeroBank(there) || ok && bankText(there) != behind(asState(b), list) {
			t.Fatalf("RideOver(%v, %s, %v) = %v, %v, want %v", k, bankText(b), list, there, ok, is)
		}
		if !ok {
			continue
		}
		if is, fine := impl.IsSafe(k, there); !is || !fine {
			t.Fatalf("the bank %s behind %v in %s of %v is not safe", bankText(there), list, bankText(b), k)
		}
		// A ride leads back where it came from if that is safe.
		back, ok := impl.RideOver(k, there, list)
		if safe := len(dangersIn(k, b)) == 0; ok != safe || ok && bankText(back) != bankText(b) {
			t.Fatalf("RideOver(%v, %s, %v) = %v, %v", k, bankText(there), list, back, ok)
		}
	}
}

// All banks: those that are not safe, and those that are not reached, with them.
func TestAllBanksOfSmallKeeps(t *testing.T) {
	for _, k := range smallKeeps() {
		safe := 0
		for _, b := range allBanks(k.Things) {
			want := dangersIn(k, b)
			if len(want) == 0 {
				safe++
			}
			if is, ok := impl.IsSafe(k, b); is != (len(want) == 0) || !ok {
				t.Fatalf("IsSafe(%v, %s) = %v, %v", k, bankText(b), is, ok)
			}
			if now, ok := impl.DangersNow(k, b); !ok || !sameLists(now, want) {
				t.Fatalf("DangersNow(%v, %s) = %v, %v, want %v", k, bankText(b), now, ok, want)
			}
			checkRides(t, k, b)
		}
		if n, ok := impl.CountSafe(k); n != safe || !ok {
			t.Fatalf("CountSafe(%v) = %v, %v, want %v", k, n, ok, safe)
		}
	}
}

func TestSomeBanks(t *testing.T) {
	for _, c := range []struct {
		keep, bank string
		dangers    [][]int
		rides      [][]int
	}{
		{"3/1/01.12", "...<", nil, [][]int{{1}}},
		{"3/1/01.12", "xxx>", nil, [][]int{{1}}},
		{"3/1/01.12", ".x.>", nil, [][]int{{}, {1}}},
		{"3/1/01.12", ".x.<", nil, [][]int{{}, {0}, {2}}},
		{"3/2/01.12", "...<", nil, [][]int{{0, 1}, {0, 2}, {1}, {1, 2}}},
		// Banks that are not safe, from which rides are told all the same.
		{"3/1/01.12", "...>", [][]int{{0, 1}, {1, 2}}, [][]int{{}}},
		{"3/1/01.12", "xxx<", [][]int{{0, 1}, {1, 2}}, [][]int{{}}},
		{"3/1/01.12", "x..>", [][]int{{1, 2}}, [][]int{{}, {0}}},
		{"4/1/01.23", "xx..>", [][]int{{2, 3}}, [][]int{{0}, {1}}},
		{"4/0/01.23", "xx..>", [][]int{{2, 3}}, nil},
		{"2/0/01", "..>", [][]int{{0, 1}}, [][]int{{}}},
		// Without a seat, or with too few, there is none at all.
		{"2/0/01", "..<", nil, nil},
		{"8/6/01.02.03.04.05.06.07.12.13.14.15.16.17.23.24.25.26.27.34.35.36.37.45.46.47.56.57.67", "........<", nil, nil},
		{"0/0/", "<", nil, [][]int{{}}},
		{"0/8/", ">", nil, [][]int{{}}},
		{"2/0/", "x.>", nil, [][]int{{}}},
		{"3/2/", "x..<", nil, [][]int{{}, {1}, {1, 2}, {2}}},
		{"3/8/", "xxx>", nil, [][]int{{}, {0}, {0, 1}, {0, 1, 2}, {0, 2}, {1}, {1, 2}, {2}}},
	} {
		k, ok := impl.ParseKeep(c.keep)
		if !ok {
			t.Fatal("keep", c.keep)
		}
		b := bankOf(c.bank)
		if now, ok := impl.DangersNow(k, b); !ok || !sameLists(now, c.dangers) {
			t.Error("dangers", c, now, ok)
		}
		if is, ok := impl.IsSafe(k, b); is != (len(c.dangers) == 0) || !ok {
			t.Error("safe", c, is, ok)
		}
		if rides, ok := impl.RidesOf(k, b); !ok || !sameLists(rides, c.rides) {
			t.Error("rides", c, rides, ok)
		}
	}
}

// The greatest keeps: all rides there may be, and all dangers.
func TestBanksOfMaxThings(t *testing.T) {
	free := impl.Keep{Things: impl.MaxThings, Seats: impl.MaxThings}
	start, _ := impl.StartBank(free)
	if rides, ok := impl.RidesOf(free, start); !ok || !sameLists(rides, setsOf(impl.MaxThings)) {
		t.Error("without dangers", len(rides), ok)
	}
	if n, ok := impl.CountSafe(free); n != 512 || !ok {
		t.Error("safe", n, ok)
	}
	if n, ok := impl.CountReachedBanks(free); n != 512 || !ok {
		t.Error("reached", n, ok)
	}
	full := impl.Keep{Things: impl.MaxThings, Dangers: pairsOf(impl.MaxThings), Seats: impl.MaxThings}
	checkRides(t, full, start)
	checkRides(t, full, bankOf("x.x.x.x.>"))
	if now, ok := impl.DangersNow(full, bankOf("........>")); !ok || !sameLists(now, pairsOf(impl.MaxThings)) || len(now) != 28 {
		t.Error("dangers", now, ok)
	}
	// On the side without the keeper there may be nothing or one thing.
	if n, ok := impl.CountSafe(full); n != 18 || !ok {
		t.Error("safe", n, ok)
	}
	if n, ok := impl.CountReachedBanks(full); n != 18 || !ok {
		t.Error("reached", n, ok)
	}
}

func TestRidesThatAreNone(t *testing.T) {
	k := impl.Keep{Things: 4, Dangers: [][]int{{0, 1}}, Seats: 2}
	for _, c := range []struct {
		bank string
		list []int
	}{
		{"....<", nil}, {"....<", []int{}}, {"....<", []int{2}}, {"....<", []int{2, 3}}, // they leave a danger
		{"....<", []int{1, 0}}, {"....<", []int{0, 0}}, {"....<", []int{2, 0}}, {"....<", []int{1, 1}},
		{"....<", []int{0, 1, 2}}, {"....<", []int{0, 1, 2, 3}}, {"....<", []int{0, 2, 1}}, {"....<", make([]int, 1000)},
		{"....<", []int{-1}}, {"....<", []int{-1, 0}}, {"....<", []int{4}}, {"....<", []int{0, 4}}, {"....<", []int{7}}, {"....<", []int{8}},
		{"....<", []int{math.MinInt}}, {"....<", []int{math.MaxInt}}, {"....<", []int{math.MinInt, math.MaxInt}}, {"....<", []int{0, math.MaxInt}},
		{"x...<", []int{0}}, {"x...<", []int{0, 1}}, {"x...>", []int{1}}, {"x...>", []int{0, 1}}, {"xxxx<", []int{0}}, {"....>", []int{0}},
		{"xxxx>", nil}, {"xxxx>", []int{3}}, {"xx..>", nil},
	} {
		if there, ok := impl.RideOver(k, bankOf(c.bank), c.list); ok || !isZeroBank(there) {
			t.Errorf("RideOver(%v, %s, %v) = %v, %v", k, c.bank, c.list, there, ok)
		}
	}
	for _, list := range [][]int{{0}, {1}, {0, 1}, {0, 2}, {0, 3}, {1, 3}} {
		if there, ok := impl.RideOver(k, bankOf("....<"), list); !ok || bankText(there) != behind(stateOf("....<"), list) {
			t.Errorf("RideOver(%v, %v) = %v, %v", k, list, there, ok)
		}
	}
}
