package tests

import (
	"math"
	"reflect"
	"runtime"
	"slices"
	"testing"
	"time"

	"loop.example/g01272/impl"
)

// sailIsles calls the functions of chapter 6 that are told places or voyages, and those that tell places.
func sailIsles(w impl.Isles, s impl.Places, voyages []impl.Voyage) []result {
	var v impl.Voyage
	if len(voyages) > 0 {
		v = voyages[0]
	}
	var all []result
	add := func(name string, value any, ok bool) { all = append(all, got(name, ok, value)) }
	add("IsIsles", impl.IsIsles(w), true)
	add("ArePlaces", impl.ArePlaces(w, s), true)
	first, ok := impl.FirstPlaces(w)
	add("FirstPlaces", first, ok)
	last, ok := impl.LastPlaces(w)
	add("LastPlaces", last, ok)
	calm, ok := impl.AreCalm(w, s)
	add("AreCalm", calm, ok)
	list, ok := impl.VoyagesOf(w, s)
	add("VoyagesOf", list, ok)
	there, ok := impl.Sail(w, s, v)
	add("Sail", there, ok)
	behind, ok := impl.SailAll(w, s, voyages)
	add("SailAll", behind, ok)
	fails, ok := impl.VoyageThatFails(w, s, voyages)
	add("VoyageThatFails", fails, ok)
	back, ok := impl.BackVoyages(w, voyages)
	add("BackVoyages", back, ok)
	return all
}

// countIsles calls the other functions of chapter 6, which go through many places.
func countIsles(w impl.Isles) []result {
	var all []result
	add := func(name string, value any, ok bool) { all = append(all, got(name, ok, value)) }
	fewest, ok := impl.FewestVoyages(w)
	add("FewestVoyages", fewest, ok)
	way, ok := impl.FirstVoyages(w)
	add("FirstVoyages", way, ok)
	count, ok := impl.CountVoyages(w)
	add("CountVoyages", count, ok)
	calm, ok := impl.CountCalmPlaces(w)
	add("CountCalmPlaces", calm, ok)
	reached, ok := impl.CountPlacesReached(w)
	add("CountPlacesReached", reached, ok)
	saved, ok := impl.SavedByIslands(w)
	add("SavedByIslands", saved, ok)
	return all
}

// callIsles calls all functions of chapter 6 with the same arguments.
func callIsles(w impl.Isles, s impl.Places, voyages []impl.Voyage) []result {
	return append(sailIsles(w, s, voyages), countIsles(w)...)
}

func groupsOf(voyages []impl.Voyage) [][]int {
	var groups [][]int
	for _, v := range voyages {
		groups = append(groups, v.Group)
	}
	return groups
}

func TestIslesThatAreNone(t *testing.T) {
	for _, w := range badIsles() {
		for _, s := range []impl.Places{placesOf("0000@0"), placesOf("00@0"), placesOf("111111@1"), {}, {At: make([]int, 8)}} {
			for _, r := range callIsles(w, s, []impl.Voyage{sail(1, 0, 1)}) {
				if r.name == "IsIsles" || r.name == "ArePlaces" {
					r.ok = false
				}
				checkFails(t, []any{w, s}, r)
			}
		}
	}
}

func TestPlacesThatAreNone(t *testing.T) {
	w := impl.Isles{Couples: 2, Seats: 2, Islands: 1}
	way, _ := impl.FirstVoyages(w)
	for _, s := range badPlaces() {
		for _, list := range [][]impl.Voyage{way, nil, {{}}} {
			for _, r := range callIsles(w, s, list) {
				switch r.name {
				case "ArePlaces":
					r.ok = false
					checkFails(t, s, r)
				case "AreCalm", "VoyagesOf", "Sail", "SailAll", "VoyageThatFails":
					checkFails(t, s, r)
				case "BackVoyages":
					if r.ok != (list != nil && len(list) > 1) {
						t.Error(s, list, r)
					}
				default:
					if !r.ok {
						t.Errorf("%s, which is told no places, fails with %v", r.name, s)
					}
				}
			}
		}
	}
}

// Promise 11: a call that fails returns zero values, whatever the arguments are, and no call panics.
func TestIslesAcceptAllArguments(t *testing.T) {
	lists := [][]impl.Voyage{
		nil, {}, {{}}, {{}, sail(1, 0)}, {sail(1, 0, 1)}, {sail(-1, 0)}, {sail(1, -1)}, {sail(math.MinInt, math.MinInt)}, {sail(math.MaxInt, math.MaxInt)},
		{sail(2, math.MinInt, math.MaxInt)}, {sail(3, 0, 1, 2, 3, 4, 5, 6, 7, 8)}, {sail(1, 1, 0)}, {sail(1, 1, 1)}, {sail(1, 1<<62)}, {sail(1, 5)}, {sail(1, 6)},
		idleVoyages(39), idleVoyages(40), idleVoyages(41), make([]impl.Voyage, 1000), {sail(1, make([]int, 1000)...)},
	}
	for _, w := range slices.Concat(badIsles(), allIsles()) {
		places := badPlaces()
		for people := range 8 {
			places = append(places, impl.Places{At: make([]int, people)}, impl.Places{At: slices.Repeat([]int{2}, people), Boat: 2}, impl.Places{At: slices.Repeat([]int{1, 0}, people), Boat: 1})
		}
		for _, r := range countIsles(w) {
			if !r.ok {
				checkFails(t, w, r)
			}
		}
		for n := range len(places) * len(lists) {
			s, l := places[n%len(places)], lists[n/len(places)]
			for _, r := range sailIsles(w, s, l) {
				if !r.ok {
					checkFails(t, []any{w, s, l}, r)
				}
			}
		}
	}
}

// Promise 11: arguments are not modified, neither by a call nor by what is done to its results, and spare capacity is neither read nor written.
func TestIslesModifyNoArguments(t *testing.T) {
	for _, c := range []struct {
		couples, seats, islands int
		places                  string
		list                    []impl.Voyage
	}{
		{1, 2, 0, "00@0", []impl.Voyage{sail(1, 0, 1)}},
		{1, 3, 2, "12@2", []impl.Voyage{sail(3, 1), sail(0, 1)}},
		{1, 2, 1, "00@0", append(idleVoyages(39), sail(2, 0, 1))},
		{2, 2, 1, "0000@0", nil},
		{2, 2, 1, "0000@0", []impl.Voyage{sail(2, 0, 1), sail(0, 0), sail(2, 0, 2), sail(0, 1), sail(2, 1, 3)}},
		{2, 2, 1, "2222@2", []impl.Voyage{sail(1, 0, 1), sail(2, 2)}},
		{2, 2, 1, "0110@1", []impl.Voyage{sail(1, 0, 1), sail(2, 2)}},
		{2, 3, 2, "0123@3", []impl.Voyage{sail(1, 3), sail(2, 3, 1), {}}},
		{2, 2, 0, "0022@2", []impl.Voyage{sail(4, 3), sail(2, 3, 1), {}}},
	} {
		isles, s := impl.Isles{Couples: c.couples, Seats: c.seats, Islands: c.islands}, placesOf(c.places)
		w := makeSpare(impl.Party{}, impl.State{}, nil)
		w.at, w.voyages = spare(s.At, -77), spareVoyages(c.list)
		plain := callIsles(isles, s, c.list)
		checkArgumentsStay(t, c, w, plain, func() []result {
			return callIsles(isles, impl.Places{At: w.at, Boat: s.Boat}, w.voyages)
		})
	}
}

func TestListsOfIslesShareNoMemory(t *testing.T) {
	w := impl.Isles{Couples: 2, Seats: 3, Islands: 2}
	all, _ := impl.VoyagesOf(w, placesOf("0000@0"))
	checkApart(t, groupsOf(all))
	way, _ := impl.FirstVoyages(w)
	checkApart(t, groupsOf(way))
	// Groups that are one in the argument are not one in the result.
	once := []int{0, 1}
	list := slices.Repeat([]impl.Voyage{{To: 1, Group: once}, {To: 0, Group: once}}, 3)
	back, ok := impl.BackVoyages(impl.Isles{Couples: 1, Seats: 2}, list[:5])
	if !ok || len(back) != 5 || &back[0].Group[0] == &once[0] {
		t.Error(back, ok)
	}
	checkApart(t, groupsOf(back))
	// Where nothing is sailed, places are new all the same.
	s := placesOf("0121@1")
	same, ok := impl.SailAll(w, s, nil)
	if !ok || &same.At[0] == &s.At[0] {
		t.Error(same, ok)
	}
}

// In which order voyages come over their channels is not seen, nor is that in which a map is gone through.
func TestIslesAreTheSameEachTime(t *testing.T) {
	for _, w := range allIsles() {
		s, _ := impl.FirstPlaces(w)
		once := callIsles(w, s, []impl.Voyage{sail(1, 0, 1)})
		for range 3 {
			if again := callIsles(w, s, []impl.Voyage{sail(1, 0, 1)}); !reflect.DeepEqual(once, again) {
				t.Fatalf("%v: %v, and then %v", w, once, again)
			}
		}
	}
	w := impl.Isles{Couples: 3, Seats: 3, Islands: 2}
	once, _ := impl.VoyagesOf(w, placesOf("111111@1"))
	for range 1000 {
		if again, ok := impl.VoyagesOf(w, placesOf("111111@1")); !ok || !sameVoyages(once, again) {
			t.Fatalf("%v, and then %v, %v", once, again, ok)
		}
	}
}

// No goroutine stays behind, whether voyages are asked for or what is none.
func TestNoGoroutineOfIslesStays(t *testing.T) {
	before := runtime.NumGoroutine()
	for _, w := range allIsles() {
		s, _ := impl.LastPlaces(w)
		for range 20 {
			impl.VoyagesOf(w, s)
			impl.SailAll(w, s, []impl.Voyage{sail(0, 0), {}, {}})
		}
		impl.FewestVoyages(impl.Isles{Couples: w.Couples, Seats: w.Seats})
	}
	// The last goroutine has told that it ends, but may not have done so yet.
	for n := 0; n < 1000 && runtime.NumGoroutine() > before; n++ {
		time.Sleep(time.Millisecond)
	}
	if after := runtime.NumGoroutine(); after > before {
		t.Errorf("%d goroutines before, and %d behind", before, after)
	}
}
