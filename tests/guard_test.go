package tests

import (
	"math"
	"testing"

	"loop.example/g01272/impl"
)

// watch is a state of guards and captives: those on either side, and whether the boat is over.
type watch struct {
	guards, captives         int
	overGuards, overCaptives int
	boat                     bool
}

// enough tells by the words of the document whether guards and captives may be together.
func enough(guards, captives int) bool { return guards >= captives || guards == 0 }

func (w watch) isGuarded() bool {
	return enough(w.guards, w.captives) && enough(w.overGuards, w.overCaptives)
}

// rowed is the state behind so many guards and captives crossing, if there are as many where the boat is.
func (w watch) rowed(guards, captives int) (watch, bool) {
	if w.boat {
		guards, captives = -guards, -captives
	}
	there := watch{w.guards - guards, w.captives - captives, w.overGuards + guards, w.overCaptives + captives, !w.boat}
	return there, min(there.guards, there.captives, there.overGuards, there.overCaptives) >= 0
}

func crossingsOf(w watch, seats int) []stride[watch] {
	var list []stride[watch]
	for guards := 0; guards <= impl.MaxSide; guards++ {
		for captives := 0; captives <= impl.MaxSide; captives++ {
			there, ok := w.rowed(guards, captives)
			if n := guards + captives; n < 1 || n > seats {
				continue
			}
			if ok && enough(guards, captives) && there.isGuarded() {
				list = append(list, stride[watch]{[]int{guards, captives}, there})
			}
		}
	}
	return list
}

// checkGuards checks all that is told of so many guards and captives with so many seats, and returns whether they get over.
func checkGuards(t *testing.T, guards, captives, seats int) bool {
	t.Helper()
	first := watch{guards: guards, captives: captives}
	last := watch{overGuards: guards, overCaptives: captives, boat: true}
	f := makeFerry(last, func(w watch) []stride[watch] { return crossingsOf(w, seats) })
	// A shortest list comes into no state twice.
	crossings, plan := -1, [][]int(nil)
	if first.isGuarded() {
		crossings = f.fewest(first, 2*(guards+1)*(captives+1))
	}
	has := crossings >= 0
	if has {
		plan = f.firstIn(first, crossings)
	}
	if n, ok := impl.FewestForGuards(guards, captives, seats); n != max(0, crossings) || ok != has {
		t.Fatalf("FewestForGuards(%d, %d, %d) = %v, %v, want %v", guards, captives, seats, n, ok, crossings)
	}
	lists, ok := impl.FirstForGuards(guards, captives, seats)
	if ok != has || !sameLists(lists, plan) {
		t.Fatalf("FirstForGuards(%d, %d, %d) = %v, %v, want %v, %v", guards, captives, seats, lists, ok, plan, has)
	}
	if end := playCrossings(t, first, seats, lists); has && (end != last || len(lists) != crossings) {
		t.Fatalf("%d guards and %d captives with %d seats: %v lead to %v", guards, captives, seats, lists, end)
	}
	return has
}

// playCrossings checks each side and the boat, crossing by crossing, and returns the state behind all.
func playCrossings(t *testing.T, at watch, seats int, lists [][]int) watch {
	t.Helper()
	for i, list := range lists {
		if len(list) != 2 || min(list[0], list[1]) < 0 || list[0]+list[1] < 1 || list[0]+list[1] > seats || !enough(list[0], list[1]) {
			t.Fatalf("the crossing %d of %v is none with %d seats", i, lists, seats)
		}
		there, ok := at.rowed(list[0], list[1])
		if !ok || !there.isGuarded() {
			t.Fatalf("the crossing %d of %v leads from %v to %v", i, lists, at, there)
		}
		at = there
	}
	return at
}

// Promise 4: guards bring all over. No guards, no captives, fewer guards than captives, MaxSide of both and MaxBoat seats are among these.
func TestAllGuardsAndCaptives(t *testing.T) {
	for guards := range impl.MaxSide + 1 {
		for captives := range impl.MaxSide + 1 {
			if guards+captives == 0 {
				continue
			}
			least, count := 0, 0
			for seats := impl.MaxBoat; seats >= 1; seats-- {
				if checkGuards(t, guards, captives, seats) {
					least = seats
				}
			}
			if n, ok := impl.SeatsForGuards(guards, captives); n != least || ok != (least > 0) {
				t.Errorf("SeatsForGuards(%d, %d) = %v, %v, want %v", guards, captives, n, ok, least)
			}
			for g := range guards + 1 {
				for c := range captives + 1 {
					if (watch{guards - g, captives - c, g, c, false}).isGuarded() {
						count++
					}
				}
			}
			if n, ok := impl.CountGuarded(guards, captives); n != count || !ok {
				t.Errorf("CountGuarded(%d, %d) = %v, %v, want %v", guards, captives, n, ok, count)
			}
		}
	}
}

func TestSomeGuardsAndCaptives(t *testing.T) {
	for _, c := range []struct{ guards, captives, seats, crossings, least, count int }{
		{3, 3, 2, 11, 2, 10},
		{1, 0, 1, 1, 1, 2},
		{0, 1, 1, 1, 1, 2},
		{1, 1, 1, 0, 2, 4},
		{1, 1, 2, 1, 2, 4},
		{0, 8, 2, 13, 2, 9},
		{8, 0, 2, 13, 2, 9},
		{8, 0, 4, 5, 2, 9},
		{4, 4, 2, 0, 3, 13},
		{4, 4, 3, 9, 3, 13},
		{6, 6, 3, 0, 4, 19},
		{8, 8, 4, 13, 4, 25},
		// Fewer guards than captives at the start bring nobody over, though they may be so parted that all is well.
		{1, 2, 2, 0, 0, 4},
		{1, 2, 4, 0, 0, 4},
		{7, 8, 4, 0, 0, 16},
	} {
		if n, ok := impl.FewestForGuards(c.guards, c.captives, c.seats); n != c.crossings || ok != (c.crossings > 0) {
			t.Error("crossings", c, n, ok)
		}
		if list, ok := impl.FirstForGuards(c.guards, c.captives, c.seats); len(list) != c.crossings || ok != (c.crossings > 0) {
			t.Error("first", c, list, ok)
		}
		if n, ok := impl.SeatsForGuards(c.guards, c.captives); n != c.least || ok != (c.least > 0) {
			t.Error("seats", c, n, ok)
		}
		if n, ok := impl.CountGuarded(c.guards, c.captives); n != c.count || !ok {
			t.Error("guarded", c, n, ok)
		}
	}
	want := [][]int{{0, 2}, {0, 1}, {0, 2}, {0, 1}, {2, 0}, {1, 1}, {2, 0}, {0, 1}, {0, 2}, {0, 1}, {0, 2}}
	if list, ok := impl.FirstForGuards(3, 3, 2); !ok || !sameLists(list, want) {
		t.Error("three of each", list, ok)
	}
}

func checkNoGuards(t *testing.T, guards, captives, seats int) {
	t.Helper()
	if n, ok := impl.FewestForGuards(guards, captives, seats); n != 0 || ok {
		t.Errorf("FewestForGuards(%d, %d, %d) = %v, %v", guards, captives, seats, n, ok)
	}
	if list, ok := impl.FirstForGuards(guards, captives, seats); len(list) != 0 || ok {
		t.Errorf("FirstForGuards(%d, %d, %d) = %v, %v", guards, captives, seats, list, ok)
	}
}

func TestNumbersOfGuardsThatAreNone(t *testing.T) {
	wrong := []int{-1, impl.MaxSide + 1, math.MinInt, math.MaxInt}
	pairs := [][2]int{{0, 0}, {math.MaxInt, math.MaxInt}, {math.MinInt, math.MinInt}, {math.MinInt, math.MaxInt}, {-1, 2}, {3, -2}, {9, 9}}
	for _, n := range wrong {
		pairs = append(pairs, [2]int{n, 2}, [2]int{2, n}, [2]int{n, 0}, [2]int{0, n}, [2]int{n, 8}, [2]int{8, n})
	}
	for _, pair := range pairs {
		for _, seats := range []int{1, 2, 4} {
			checkNoGuards(t, pair[0], pair[1], seats)
		}
		if n, ok := impl.SeatsForGuards(pair[0], pair[1]); n != 0 || ok {
			t.Error("seats", pair, n, ok)
		}
		if n, ok := impl.CountGuarded(pair[0], pair[1]); n != 0 || ok {
			t.Error("guarded", pair, n, ok)
		}
	}
	for _, seats := range []int{0, -1, impl.MaxBoat + 1, math.MinInt, math.MaxInt} {
		for _, pair := range [][2]int{{1, 0}, {0, 1}, {2, 2}, {8, 8}} {
			checkNoGuards(t, pair[0], pair[1], seats)
		}
	}
}
