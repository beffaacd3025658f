package tests

import (
	"slices"
	"testing"

	"loop.example/g01272/impl"
)

// banksOf are the texts of the places in which all are at 0 and in which all are on the other bank.
func banksOf(w impl.Isles) (string, string) {
	bank := w.Islands + 1
	return placesText(impl.Places{At: make([]int, 2*w.Couples)}), placesText(impl.Places{At: slices.Repeat([]int{bank}, 2*w.Couples), Boat: bank})
}

// ferryOfIsles finds ways over from the voyages that are found by going through all sets of people.
func ferryOfIsles(w impl.Isles) ferry[string] {
	_, last := banksOf(w)
	return makeFerry(last, func(at string) []stride[string] { return voyagesBySets(w, placesOf(at)) })
}

// turned are the voyages in the other order, each to where the one before it led, with the places told from the other bank on.
func turned(w impl.Isles, list []impl.Voyage) []impl.Voyage {
	var back []impl.Voyage
	for i := len(list) - 1; i >= 0; i-- {
		from := 0
		if i > 0 {
			from = list[i-1].To
		}
		back = append(back, sail(w.Islands+1-from, list[i].Group...))
	}
	return back
}

// checkAshore sails a list of voyages one by one, and checks that they lead over, through places that are calm.
func checkAshore(t *testing.T, w impl.Isles, list []impl.Voyage) {
	t.Helper()
	start, ok := impl.FirstPlaces(w)
	if !ok || len(list) > 40 {
		t.Fatalf("FirstPlaces(%v) = %v, %v, and %d voyages", w, start, ok, len(list))
	}
	s := start
	for n, v := range list {
		voyages, ok := impl.VoyagesOf(w, s)
		if !ok || !slices.ContainsFunc(voyages, func(x impl.Voyage) bool { return sameVoyages([]impl.Voyage{x}, []impl.Voyage{v}) }) {
			t.Fatalf("VoyagesOf(%v, %v) = %v, %v, without %v", w, s, voyages, ok, v)
		}
		there, ok := impl.Sail(w, s, v)
		if !ok || placesText(there) != placesText(afterVoyage(s, v.To, v.Group)) {
			t.Fatalf("Sail(%v, %v, %v) = %v, %v", w, s, v, there, ok)
		}
		if is, ok := impl.AreCalm(w, there); !is || !ok || !areCalm(there) {
			t.Fatalf("%v behind %v of %v are not calm", there, list[:n+1], w)
		}
		if all, ok := impl.SailAll(w, start, list[:n+1]); !ok || placesText(all) != placesText(there) {
			t.Fatalf("SailAll(%v, %v, %v) = %v, %v, want %v", w, start, list[:n+1], all, ok, there)
		}
		s = there
	}
	if end, ok := impl.LastPlaces(w); !ok || placesText(end) != placesText(s) {
		t.Fatalf("%v of %v lead to %v, not to %v, %v", list, w, s, end, ok)
	}
	if n, ok := impl.VoyageThatFails(w, start, list); n != 0 || ok {
		t.Fatalf("VoyageThatFails(%v, %v) = %v, %v", w, list, n, ok)
	}
}

// checkWayOver checks promise 6 for a way over: it leads through calm places, and so does the way back, told from the other bank on.
func checkWayOver(t *testing.T, w impl.Isles, list []impl.Voyage) {
	t.Helper()
	checkAshore(t, w, list)
	back, ok := impl.BackVoyages(w, list)
	if !ok || !sameVoyages(back, turned(w, list)) {
		t.Fatalf("BackVoyages(%v, %v) = %v, %v, want %v", w, list, back, ok, turned(w, list))
	}
	checkAshore(t, w, back)
	if again, ok := impl.BackVoyages(w, back); !ok || !sameVoyages(again, list) {
		t.Fatalf("BackVoyages(%v, %v) = %v, %v, want %v", w, back, again, ok, list)
	}
}

func TestWaysOverOfAllIsles(t *testing.T) {
	for _, w := range allIsles() {
		f := ferryOfIsles(w)
		first, _ := banksOf(w)
		voyages, count, lists := f.fewest(first, 40), 0, [][]int(nil)
		has := voyages >= 0
		if has {
			count, lists = f.countIn(first, voyages), f.firstIn(first, voyages)
		}
		if n, ok := impl.FewestVoyages(w); n != max(0, voyages) || ok != has {
			t.Errorf("FewestVoyages(%v) = %v, %v, want %v", w, n, ok, voyages)
		}
		if n, ok := impl.CountVoyages(w); n != count || !ok {
			t.Errorf("CountVoyages(%v) = %v, %v, want %v", w, n, ok, count)
		}
		if n, ok := impl.CountPlacesReached(w); n != f.reached(first) || !ok {
			t.Errorf("CountPlacesReached(%v) = %v, %v, want %v", w, n, ok, f.reached(first))
		}
		way, ok := impl.FirstVoyages(w)
		if ok != has || !sameVoyages(way, voyagesOf(lists)) || len(way) != max(0, voyages) {
			t.Fatalf("FirstVoyages(%v) = %v, %v, want %v, %v", w, way, ok, lists, has)
		}
		if has {
			checkWayOver(t, w, way)
		}
	}
}

// Without islands everything is as it is for a company of chapter 4.
func TestIslesWithoutIslands(t *testing.T) {
	for _, w := range allIsles() {
		if w.Islands > 0 {
			continue
		}
		c := impl.Company{Couples: w.Couples, Seats: w.Seats}
		rows, has := impl.FewestRows(c)
		if n, ok := impl.FewestVoyages(w); n != rows || ok != has {
			t.Error("fewest", w, n, ok, rows, has)
		}
		plan, _ := impl.FirstRows(c)
		way, ok := impl.FirstVoyages(w)
		if ok != has || len(way) != len(plan) {
			t.Fatal("first", w, way, ok, plan)
		}
		for i, v := range way {
			if v.To != 1-i%2 || !slices.Equal(v.Group, plan[i]) {
				t.Error("voyage", w, v, plan[i])
			}
		}
		for _, pair := range []struct {
			isles   func(impl.Isles) (int, bool)
			company func(impl.Company) (int, bool)
		}{{impl.CountVoyages, impl.CountRows}, {impl.CountCalmPlaces, impl.CountCalm}, {impl.CountPlacesReached, impl.CountCalmReached}} {
			want, _ := pair.company(c)
			if n, ok := pair.isles(w); n != want || !ok {
				t.Error("count", w, n, ok, want)
			}
		}
	}
}

func TestSomeIsles(t *testing.T) {
	for _, c := range []struct{ couples, seats, islands, voyages, count, calm, reached int }{
		// One couple is calm everywhere. With one seat one of both can only sail about alone.
		{1, 1, 0, 0, 0, 6, 3},
		{1, 1, 1, 0, 0, 15, 5},
		{1, 1, 2, 0, 0, 28, 7},
		{1, 2, 0, 1, 1, 6, 6},
		{1, 2, 1, 1, 1, 15, 15},
		{1, 2, 2, 1, 1, 28, 28},
		{1, 3, 0, 1, 1, 6, 6},
		{1, 3, 1, 1, 1, 15, 15},
		{1, 3, 2, 1, 1, 28, 28},
		{2, 1, 0, 0, 0, 18, 3},
		{2, 1, 2, 0, 0, 484, 7},
		{2, 2, 0, 5, 8, 18, 18},
		{2, 2, 2, 5, 8, 484, 484},
		{2, 3, 0, 3, 10, 18, 18},
		{3, 1, 0, 0, 0, 42, 4},
		{3, 1, 2, 0, 0, 4756, 10},
		{3, 2, 0, 11, 486, 42, 40},
		{3, 2, 1, 11, 1350, 627, 585},
		{3, 2, 2, 11, 2214, 4756, 4528},
		{3, 3, 2, 5, 24, 4756, 4756},
	} {
		w := impl.Isles{Couples: c.couples, Seats: c.seats, Islands: c.islands}
		if n, ok := impl.FewestVoyages(w); n != c.voyages || ok != (c.voyages > 0) {
			t.Error("fewest", c, n, ok)
		}
		if way, ok := impl.FirstVoyages(w); len(way) != c.voyages || ok != (c.voyages > 0) {
			t.Error("first", c, way, ok)
		}
		if n, ok := impl.CountVoyages(w); n != c.count || !ok {
			t.Error("count", c, n, ok)
		}
		if n, ok := impl.CountCalmPlaces(w); n != c.calm || !ok {
			t.Error("calm", c, n, ok)
		}
		if n, ok := impl.CountPlacesReached(w); n != c.reached || !ok {
			t.Error("reached", c, n, ok)
		}
	}
}

func TestFirstVoyages(t *testing.T) {
	for _, c := range []struct {
		couples, seats, islands int
		want                    []impl.Voyage
	}{
		{1, 1, 2, nil},
		{1, 2, 0, []impl.Voyage{sail(1, 0, 1)}},
		{1, 3, 2, []impl.Voyage{sail(3, 0, 1)}},
		{2, 2, 0, []impl.Voyage{sail(1, 0, 1), sail(0, 0), sail(1, 0, 2), sail(0, 1), sail(1, 1, 3)}},
		{2, 2, 1, []impl.Voyage{sail(2, 0, 1), sail(0, 0), sail(2, 0, 2), sail(0, 1), sail(2, 1, 3)}},
		{2, 3, 2, []impl.Voyage{sail(3, 0, 1), sail(0, 0), sail(3, 0, 2, 3)}},
		// The couple 0 stops on the island, which comes before the other bank.
		{3, 2, 1, []impl.Voyage{
			sail(1, 0, 1), sail(0, 0), sail(2, 2, 3), sail(0, 2), sail(2, 0, 2), sail(0, 0),
			sail(2, 0, 4), sail(0, 3), sail(2, 3, 5), sail(1, 0), sail(2, 0, 1),
		}},
	} {
		w := impl.Isles{Couples: c.couples, Seats: c.seats, Islands: c.islands}
		if way, ok := impl.FirstVoyages(w); ok != (c.want != nil) || !sameVoyages(way, c.want) {
			t.Errorf("FirstVoyages(%v) = %v, %v, want %v", w, way, ok, c.want)
		}
	}
}

func TestSavedByIslands(t *testing.T) {
	for _, w := range allIsles() {
		with, ok := impl.FewestVoyages(w)
		without, fine := impl.FewestVoyages(impl.Isles{Couples: w.Couples, Seats: w.Seats})
		if ok != fine || ok != (w.Seats > 1) {
			t.Fatalf("FewestVoyages(%v) = %v, %v, and %v, %v without islands", w, with, ok, without, fine)
		}
		saved, ok := impl.SavedByIslands(w)
		// Islands need not be used, so that they never cost.
		if ok != fine || saved != without-with || saved < 0 || w.Islands == 0 && saved != 0 {
			t.Errorf("SavedByIslands(%v) = %v, %v, but %v with and %v without", w, saved, ok, with, without)
		}
	}
	// Without islands there would be a way over, but with so many there are no isles.
	for _, islands := range []int{-1, impl.MaxIslands + 1} {
		if n, ok := impl.SavedByIslands(impl.Isles{Couples: 2, Seats: 2, Islands: islands}); n != 0 || ok {
			t.Error(islands, n, ok)
		}
	}
}

// strayVoyages are voyages, some at first, that lead over by no short way: each is chosen by a rule, and the last ones then lead straight over.
func strayVoyages(w impl.Isles, f ferry[string], some int, rule int) []impl.Voyage {
	at, _ := banksOf(w)
	var lists [][]int
	for range some {
		choice := f.stridesIn(at)
		rule = (rule*139 + 2971) % 10007
		lists = append(lists, choice[rule%len(choice)].list)
		at = choice[rule%len(choice)].there
	}
	return voyagesOf(append(lists, f.firstIn(at, f.fewest(at, 40))...))
}

func TestOtherWaysOver(t *testing.T) {
	for _, w := range allIsles() {
		if w.Seats == 1 {
			continue
		}
		f := ferryOfIsles(w)
		for rule := range 12 {
			checkWayOver(t, w, strayVoyages(w, f, 2*rule, rule))
		}
	}
}

// idleVoyages are voyages of the couple 0 to and fro between 0 and 1, so many.
func idleVoyages(voyages int) []impl.Voyage {
	var list []impl.Voyage
	for n := range voyages {
		list = append(list, sail(1-n%2, 0, 1))
	}
	return list
}

func TestMaxVoyagesAndOneMore(t *testing.T) {
	w := impl.Isles{Couples: 1, Seats: 2, Islands: 1}
	start, _ := impl.FirstPlaces(w)
	ashore := append(idleVoyages(39), sail(2, 0, 1))
	checkWayOver(t, w, ashore)
	if s, ok := impl.SailAll(w, start, idleVoyages(40)); !ok || placesText(s) != "00@0" {
		t.Error("40", s, ok)
	}
	// A way over, too, but one that is too long.
	long := append(idleVoyages(40), sail(2, 0, 1))
	none := append([]impl.Voyage{{}}, long[:40]...)
	for _, list := range [][]impl.Voyage{long, none, idleVoyages(41), make([]impl.Voyage, 41), make([]impl.Voyage, 1000)} {
		if s, ok := impl.SailAll(w, start, list); ok || !isZeroPlaces(s) {
			t.Error("SailAll", len(list), s, ok)
		}
		if n, ok := impl.VoyageThatFails(w, start, list); n != 0 || ok {
			t.Error("VoyageThatFails", len(list), n, ok)
		}
		if back, ok := impl.BackVoyages(w, list); len(back) != 0 || ok {
			t.Error("BackVoyages", len(list), back, ok)
		}
	}
	if s, ok := impl.SailAll(w, start, none[:40]); ok || !isZeroPlaces(s) {
		t.Error("none", s, ok)
	}
	if n, ok := impl.VoyageThatFails(w, start, none[:40]); n != 0 || !ok {
		t.Error("the first", n, ok)
	}
	if n, ok := impl.VoyageThatFails(w, start, append(idleVoyages(39), sail(1, 0, 1))); n != 39 || !ok {
		t.Error("the last", n, ok)
	}
}

func TestListsThatAreNoWayOver(t *testing.T) {
	w := impl.Isles{Couples: 2, Seats: 2, Islands: 1}
	way, _ := impl.FirstVoyages(w)
	for n := range way {
		for _, list := range [][]impl.Voyage{way[:n], way[n+1:], slices.Concat(way[:n], way[n+1:]), slices.Concat(way[:n], []impl.Voyage{{}}, way[n:])} {
			if back, ok := impl.BackVoyages(w, list); ok || len(back) != 0 {
				t.Errorf("BackVoyages(%v, %v) = %v, %v", w, list, back, ok)
			}
		}
	}
	for _, list := range [][]impl.Voyage{
		nil, {}, {{}}, {sail(2, 0, 1, 2, 3)}, {sail(1, 0, 1)}, {sail(2, 0, 1)}, append(slices.Clone(way), sail(1, 1)), append(slices.Clone(way), sail(3, 1)),
		append(slices.Clone(way), impl.Voyage{}), make([]impl.Voyage, 40),
		// All get to the island only.
		{sail(1, 0, 1), sail(0, 0), sail(1, 0, 2), sail(0, 1), sail(1, 1, 3)},
	} {
		if back, ok := impl.BackVoyages(w, list); ok || len(back) != 0 {
			t.Errorf("BackVoyages(%v, %v) = %v, %v", w, list, back, ok)
		}
	}
	// Behind the end a way over may go on if it comes there again.
	checkWayOver(t, w, append(slices.Clone(way), sail(1, 1), sail(2, 1)))
	// Where the other bank is farther, the same voyages lead to an island only.
	farther := impl.Isles{Couples: 2, Seats: 2, Islands: 2}
	if back, ok := impl.BackVoyages(farther, way); ok || len(back) != 0 {
		t.Error("farther", back, ok)
	}
}

func TestBackVoyages(t *testing.T) {
	for _, c := range []struct {
		couples, seats, islands int
		list, want              []impl.Voyage
	}{
		{1, 2, 0, []impl.Voyage{sail(1, 0, 1)}, []impl.Voyage{sail(1, 0, 1)}},
		{1, 2, 0, []impl.Voyage{sail(1, 0), sail(0, 0), sail(1, 0, 1)}, []impl.Voyage{sail(1, 0, 1), sail(0, 0), sail(1, 0)}},
		{1, 2, 2, []impl.Voyage{sail(3, 0, 1)}, []impl.Voyage{sail(3, 0, 1)}},
		{1, 2, 2, []impl.Voyage{sail(1, 0, 1), sail(3, 0, 1)}, []impl.Voyage{sail(2, 0, 1), sail(3, 0, 1)}},
		{1, 2, 2, []impl.Voyage{sail(2, 0, 1), sail(1, 0), sail(2, 0), sail(3, 0, 1)}, []impl.Voyage{sail(1, 0, 1), sail(2, 0), sail(1, 0), sail(3, 0, 1)}},
		{2, 2, 1,
			[]impl.Voyage{sail(2, 0, 1), sail(0, 0), sail(2, 0, 2), sail(0, 1), sail(2, 1, 3)},
			[]impl.Voyage{sail(2, 1, 3), sail(0, 1), sail(2, 0, 2), sail(0, 0), sail(2, 0, 1)}},
	} {
		w := impl.Isles{Couples: c.couples, Seats: c.seats, Islands: c.islands}
		if back, ok := impl.BackVoyages(w, c.list); !ok || !sameVoyages(back, c.want) {
			t.Errorf("BackVoyages(%v, %v) = %v, %v, want %v", w, c.list, back, ok, c.want)
		}
	}
}

func TestSailAllAndVoyageThatFails(t *testing.T) {
	w := impl.Isles{Couples: 2, Seats: 2, Islands: 1}
	for _, c := range []struct {
		places string
		list   []impl.Voyage
		behind string
		fails  int
	}{
		{"0000@0", nil, "0000@0", -1},
		{"0121@1", []impl.Voyage{}, "0121@1", -1},
		{"0000@0", []impl.Voyage{sail(1, 0, 1), sail(0, 0)}, "0100@0", -1},
		{"0000@0", []impl.Voyage{sail(1, 0, 1), sail(2, 0), sail(1, 0), sail(2, 0, 1)}, "2200@2", -1},
		{"2222@2", []impl.Voyage{sail(1, 0, 2), sail(0, 0, 2)}, "0202@0", -1},
		{"0121@1", []impl.Voyage{sail(0, 1)}, "0021@0", -1},
		{"0000@0", []impl.Voyage{{}}, "", 0},
		{"0000@0", []impl.Voyage{sail(1, 0), sail(2, 0)}, "", 0},
		{"0000@0", []impl.Voyage{sail(1, 0, 1), sail(0, 2)}, "", 1},
		{"0000@0", []impl.Voyage{sail(1, 0, 1), sail(1, 0)}, "", 1},
		{"0000@0", []impl.Voyage{sail(1, 0, 1), sail(2, 0), sail(1, 0), sail(3, 0, 1)}, "", 3},
		{"0000@0", []impl.Voyage{sail(1, 0, 1), sail(0, 0), sail(1, 2), sail(-1, 0)}, "", 2},
		{"0121@1", []impl.Voyage{sail(0, 3), sail(0, 1)}, "", 0},
		{"0121@1", []impl.Voyage{sail(0, 1), sail(1, 1, 0)}, "", 1},
	} {
		s := placesOf(c.places)
		fails := c.fails >= 0
		if there, ok := impl.SailAll(w, s, c.list); ok == fails || fails && !isZeroPlaces(there) || !fails && placesText(there) != c.behind {
			t.Errorf("SailAll(%v, %v) = %v, %v, want %s", s, c.list, there, ok, c.behind)
		}
		if n, ok := impl.VoyageThatFails(w, s, c.list); ok != fails || n != max(0, c.fails) {
			t.Errorf("VoyageThatFails(%v, %v) = %v, %v, want %d", s, c.list, n, ok, c.fails)
		}
	}
	// With one seat, places that are not reached.
	one := impl.Isles{Couples: 3, Seats: 1}
	if s, ok := impl.SailAll(one, placesOf("110000@1"), []impl.Voyage{sail(0, 0)}); !ok || placesText(s) != "010000@0" {
		t.Error("not reached", s, ok)
	}
}
