package tests

import (
	"slices"
	"testing"

	"loop.example/g01272/impl"
)

func keep(t *testing.T, text string) impl.Keep {
	t.Helper()
	k, ok := impl.ParseKeep(text)
	if !ok {
		t.Fatalf("ParseKeep(%q) fails", text)
	}
	return k
}

// startAndEnd are the texts of the banks in which nothing and in which everything is over.
func startAndEnd(k impl.Keep) (string, string) {
	nothing, all := make([]bool, k.Things), slices.Repeat([]bool{true}, k.Things)
	return bankText(impl.Bank{Over: nothing}), bankText(impl.Bank{Over: all, Keeper: true})
}

// ferryOfKeep finds the ways of a keep from the rides that are found by going through all sets.
func ferryOfKeep(k impl.Keep) ferry[string] {
	_, end := startAndEnd(k)
	return makeFerry(end, func(at string) []stride[string] { return ridesBySets(k, bankOf(at)) })
}

// watchedBySets is the first one of the shortest sets that have a thing of each danger.
func watchedBySets(k impl.Keep) []int {
	sets := setsOf(k.Things)
	slices.SortStableFunc(sets, func(a, b []int) int { return len(a) - len(b) })
	n := slices.IndexFunc(sets, func(watched []int) bool {
		return !slices.ContainsFunc(k.Dangers, func(d []int) bool {
			return !slices.Contains(watched, d[0]) && !slices.Contains(watched, d[1])
		})
	})
	return sets[n]
}

// otherKeeps are keeps of more than four things, of kinds and with all numbers of dangers.
func otherKeeps() []impl.Keep {
	var list []impl.Keep
	for things := 5; things <= impl.MaxThings; things++ {
		pairs := pairsOf(things)
		var star, path, halves, apart [][]int
		for _, p := range pairs {
			if p[0] == 2 || p[1] == 2 {
				star = append(star, p)
			}
			if p[1]-p[0] == 1 {
				path = append(path, p)
			}
			if (p[1]-p[0])%2 == 1 {
				halves = append(halves, p)
			}
			if p[0]/3 == p[1]/3 {
				apart = append(apart, p)
			}
		}
		kinds := [][][]int{nil, pairs, star, path, halves, apart, pairs[1:], pairs[:len(pairs)-1]}
		for n := range 6 {
			kinds = append(kinds, chosen(pairs, (things*7919+n*104729)*1299709>>n))
		}
		for _, dangers := range kinds {
			list = append(list, impl.Keep{Things: things, Dangers: dangers})
		}
	}
	return list
}

// checkPlayed plays rides one after the other, and checks that they lead over by banks that are safe.
func checkPlayed(t *testing.T, k impl.Keep, lists [][]int) {
	t.Helper()
	b, _ := impl.StartBank(k)
	for n, list := range lists {
		there, ok := impl.RideOver(k, b, list)
		if !ok || !isRide(k, b, list) || bankText(there) != behind(asState(b), list) {
			t.Fatalf("RideOver(%v, %s, %v) = %v, %v", k, bankText(b), list, there, ok)
		}
		if is, ok := impl.IsSafe(k, there); !is || !ok || len(dangersIn(k, there)) != 0 {
			t.Fatalf("%s behind %v of %v is not safe", bankText(there), lists[:n+1], k)
		}
		if n < impl.MaxRides {
			if played, ok := impl.PlayRides(k, lists[:n+1]); !ok || bankText(played) != bankText(there) {
				t.Fatalf("PlayRides(%v, %v) = %v, %v, want %s", k, lists[:n+1], played, ok, bankText(there))
			}
		}
		b = there
	}
	if _, end := startAndEnd(k); bankText(b) != end {
		t.Fatalf("%v of %v lead to %s", lists, k, bankText(b))
	}
	if end, ok := impl.EndBank(k); !ok || bankText(end) != bankText(b) {
		t.Fatalf("EndBank(%v) = %v, %v", k, end, ok)
	}
}

// checkKeepPlans checks all that is told of the plans of a keep, and returns whether it has one.
func checkKeepPlans(t *testing.T, k impl.Keep) bool {
	t.Helper()
	f := ferryOfKeep(k)
	start, _ := startAndEnd(k)
	// A shortest plan comes into no bank twice.
	rides, count, plan := f.fewest(start, 2<<k.Things), 0, [][]int(nil)
	has := rides >= 0
	if has {
		count, plan = f.countIn(start, rides), f.firstIn(start, rides)
	}
	if n, ok := impl.FewestRides(k); n != max(0, rides) || ok != has {
		t.Fatalf("FewestRides(%v) = %v, %v, want %v", k, n, ok, rides)
	}
	lists, ok := impl.FirstRides(k)
	if ok != has || !sameLists(lists, plan) {
		t.Fatalf("FirstRides(%v) = %v, %v, want %v, %v", k, lists, ok, plan, has)
	}
	if n, ok := impl.CountRides(k); n != count || !ok {
		t.Fatalf("CountRides(%v) = %v, %v, want %v", k, n, ok, count)
	}
	if n, ok := impl.CountReachedBanks(k); n != f.reached(start) || !ok {
		t.Fatalf("CountReachedBanks(%v) = %v, %v, want %v", k, n, ok, f.reached(start))
	}
	if has && len(lists) != rides {
		t.Fatalf("%v of %v are not %d", lists, k, rides)
	}
	if has {
		checkPlayed(t, k, lists)
	}
	return has
}

// checkLeastSeats checks promise 5 for the dangers of a keep: it has a plan with LeastSeats, but none with one seat less.
func checkLeastSeats(t *testing.T, k impl.Keep) {
	t.Helper()
	watched, ok := impl.LeastWatched(k)
	if want := watchedBySets(k); !ok || !slices.Equal(watched, want) {
		t.Fatalf("LeastWatched(%v) = %v, %v, want %v", k, watched, ok, want)
	}
	seats, ok := impl.LeastSeats(k)
	if !ok || seats != len(watched) && seats != len(watched)+1 {
		t.Fatalf("LeastSeats(%v) = %v, %v, but %v are to be watched", k, seats, ok, watched)
	}
	k.Seats = seats
	if !checkKeepPlans(t, k) {
		t.Fatalf("%v has no plan with its least seats", k)
	}
	if k.Seats = seats - 1; k.Seats >= 0 && checkKeepPlans(t, k) {
		t.Fatalf("%v has a plan, but its least seats are %d", k, seats)
	}
}

func TestPlansOfSmallKeeps(t *testing.T) {
	for _, k := range smallKeeps() {
		least, ok := impl.LeastSeats(k)
		if has := checkKeepPlans(t, k); has != (k.Seats >= least) || !ok {
			t.Fatalf("LeastSeats(%v) = %v, %v, but it has a plan: %v", k, least, ok, has)
		}
	}
}

// Promise 5: least seats are as many as watched things or one more. LeastSeats does not depend on the seats that there are.
func TestLeastSeatsOfSmallKeeps(t *testing.T) {
	for _, k := range smallKeeps() {
		checkLeastSeats(t, k)
	}
}

func TestLeastSeatsOfOtherKeeps(t *testing.T) {
	for _, k := range otherKeeps() {
		checkLeastSeats(t, k)
	}
}

func TestPlansOfOtherKeeps(t *testing.T) {
	for _, text := range []string{"5/3/01.04.12.23.34", "6/4/01.02.12.34.35.45", "7/2/03.13.23.34.35.36", "8/2/", "8/8/01.67"} {
		checkKeepPlans(t, keep(t, text))
	}
}

func TestSomeKeeps(t *testing.T) {
	all := "01.02.03.04.05.06.07.12.13.14.15.16.17.23.24.25.26.27.34.35.36.37.45.46.47.56.57.67"
	seven := []int{0, 1, 2, 3, 4, 5, 6}
	for _, c := range []struct {
		keep                             string
		rides, count, seats, safe, reach int
		watched                          []int
	}{
		// No ride is needed but the keeper's own.
		{"0/0/", 1, 1, 0, 2, 2, nil},
		{"0/8/", 1, 1, 0, 2, 2, nil},
		// Without a seat the keeper rides alone, or not at all.
		{"1/0/", 0, 0, 1, 4, 2, nil},
		{"2/0/01", 0, 0, 1, 6, 1, []int{0}},
		{"8/0/", 0, 0, 1, 512, 2, nil},
		{"8/0/" + all, 0, 0, 7, 18, 1, seven},
		{"1/1/", 1, 1, 1, 4, 4, nil},
		{"1/8/", 1, 1, 1, 4, 4, nil},
		{"2/1/", 3, 2, 1, 8, 8, nil},
		{"2/1/01", 3, 2, 1, 6, 6, []int{0}},
		{"2/2/01", 1, 1, 1, 6, 6, []int{0}},
		{"3/1/01.12", 7, 2, 1, 10, 10, []int{1}},
		{"3/1/02.12", 7, 2, 1, 10, 10, []int{2}},
		{"3/1/01.02.12", 0, 0, 2, 8, 1, []int{0, 1}},
		// One seat more is needed than there are things to be watched.
		{"4/1/01.02.03", 0, 0, 2, 18, 9, []int{0}},
		{"4/2/01.02.03", 5, 30, 2, 18, 18, []int{0}},
		// Of each of two pairs one has to be watched: with one seat not even the first ride is safe.
		{"4/1/01.23", 0, 0, 2, 18, 1, []int{0, 2}},
		{"8/1/", 15, 40320, 1, 512, 512, nil},
		{"8/8/", 1, 1, 1, 512, 512, nil},
		{"8/6/" + all, 0, 0, 7, 18, 1, seven},
		{"8/7/" + all, 3, 56, 7, 18, 18, seven},
		{"8/8/" + all, 1, 1, 7, 18, 18, seven},
	} {
		k := keep(t, c.keep)
		if n, ok := impl.FewestRides(k); n != c.rides || ok != (c.rides > 0) {
			t.Error("fewest", c, n, ok)
		}
		if lists, ok := impl.FirstRides(k); len(lists) != c.rides || ok != (c.rides > 0) {
			t.Error("first", c, lists, ok)
		}
		if n, ok := impl.CountRides(k); n != c.count || !ok {
			t.Error("count", c, n, ok)
		}
		if n, ok := impl.LeastSeats(k); n != c.seats || !ok {
			t.Error("seats", c, n, ok)
		}
		if n, ok := impl.CountSafe(k); n != c.safe || !ok {
			t.Error("safe", c, n, ok)
		}
		if n, ok := impl.CountReachedBanks(k); n != c.reach || !ok {
			t.Error("reached", c, n, ok)
		}
		if list, ok := impl.LeastWatched(k); !ok || !slices.Equal(list, c.watched) {
			t.Error("watched", c, list, ok)
		}
	}
}

func TestKeepWithNoThings(t *testing.T) {
	for seats := range impl.MaxThings + 1 {
		k := impl.Keep{Seats: seats}
		start, ok := impl.StartBank(k)
		if !ok || !isZeroBank(start) {
			t.Error("start", k, start, ok)
		}
		end, ok := impl.EndBank(k)
		if !ok || len(end.Over) != 0 || !end.Keeper {
			t.Error("end", k, end, ok)
		}
		for _, b := range []impl.Bank{start, end} {
			if rides, ok := impl.RidesOf(k, b); !ok || !sameLists(rides, [][]int{{}}) {
				t.Error("rides", k, rides, ok)
			}
			if there, ok := impl.RideOver(k, b, nil); !ok || len(there.Over) != 0 || there.Keeper == b.Keeper {
				t.Error("ride", k, there, ok)
			}
			if now, ok := impl.DangersNow(k, b); !ok || len(now) != 0 {
				t.Error("dangers", k, now, ok)
			}
		}
		if lists, ok := impl.FirstRides(k); !ok || !sameLists(lists, [][]int{{}}) {
			t.Error("first", k, lists, ok)
		}
		for _, n := range []int{-1, 0, 1} {
			if more, ok := impl.WithDanger(k, n, 1); ok || !isZeroKeep(more) {
				t.Error("danger", k, more, ok)
			}
		}
		checkLeastSeats(t, k)
	}
}

func TestPlayRides(t *testing.T) {
	k := keep(t, "3/1/01.12")
	for _, c := range []struct {
		lists [][]int
		bank  string
	}{
		{nil, "...<"},
		{[][]int{}, "...<"},
		{[][]int{{1}}, ".x.>"},
		{[][]int{{1}, {}}, ".x.<"},
		{[][]int{{1}, nil, {0}}, "xx.>"},
		{[][]int{{1}, {}, {2}, {1}}, "..x<"},
		{[][]int{{1}, {}, {0}, {1}, {2}, {}, {1}}, "xxx>"},
		// Rides may go on behind the end.
		{[][]int{{1}, {}, {0}, {1}, {2}, {}, {1}, {1}}, "x.x<"},
	} {
		if b, ok := impl.PlayRides(k, c.lists); !ok || bankText(b) != c.bank {
			t.Errorf("PlayRides(%v, %v) = %v, %v, want %s", k, c.lists, b, ok, c.bank)
		}
	}
	for _, lists := range [][][]int{
		{nil}, {{}}, {{0}}, {{2}}, {{1, 0}}, {{0, 1}}, {{1}, {0}}, {{1}, {}, {1}}, {{1}, {}, {0}, {}}, {{1}, {3}}, {{1}, {-1}}, {{1}, {}, {0, 2}},
		{{1}, {}, {0}, {1}, {2}, {}, {1}, {}}, make([][]int, 40), {make([]int, 1000)},
	} {
		if b, ok := impl.PlayRides(k, lists); ok || !isZeroBank(b) {
			t.Errorf("PlayRides(%v, %v) = %v, %v", k, lists, b, ok)
		}
	}
}

// toAndFro is the same ride so many times.
func toAndFro(ride []int, times int) [][]int { return slices.Repeat([][]int{ride}, times) }

func TestMaxRidesAndOneMore(t *testing.T) {
	for _, c := range []struct {
		keep          string
		ride          []int
		behind, again string
	}{
		{"3/1/01.12", []int{1}, ".x.>", "...<"},
		{"0/0/", nil, ">", "<"},
		{"2/2/01", []int{0, 1}, "xx>", "..<"},
	} {
		k := keep(t, c.keep)
		if b, ok := impl.PlayRides(k, toAndFro(c.ride, impl.MaxRides-1)); !ok || bankText(b) != c.behind {
			t.Error("one less", c, b, ok)
		}
		if b, ok := impl.PlayRides(k, toAndFro(c.ride, impl.MaxRides)); !ok || bankText(b) != c.again {
			t.Error("as many", c, b, ok)
		}
		for _, times := range []int{impl.MaxRides + 1, impl.MaxRides + 2, 1000} {
			if b, ok := impl.PlayRides(k, toAndFro(c.ride, times)); ok || !isZeroBank(b) {
				t.Error("more", times, c, b, ok)
			}
		}
	}
}
