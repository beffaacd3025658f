package tests

import (
	"math"
	"slices"
	"strconv"
	"strings"
	"testing"

	"loop.example/g01272/impl"
)

// placesOf reads places told by a digit for each person, and one for the boat behind @.
func placesOf(text string) impl.Places {
	people, boat, _ := strings.Cut(text, "@")
	var s impl.Places
	for _, digit := range people {
		s.At = append(s.At, int(digit-'0'))
	}
	s.Boat = int(boat[0] - '0')
	return s
}

func placesText(s impl.Places) string {
	text := ""
	for _, place := range s.At {
		text += strconv.Itoa(place)
	}
	return text + "@" + strconv.Itoa(s.Boat)
}

func isZeroPlaces(s impl.Places) bool { return len(s.At) == 0 && s.Boat == 0 }

func sail(to int, group ...int) impl.Voyage { return impl.Voyage{To: to, Group: group} }

// voyagesOf are the voyages told as lists, each of where it leads and of its group.
func voyagesOf(lists [][]int) []impl.Voyage {
	var voyages []impl.Voyage
	for _, list := range lists {
		voyages = append(voyages, sail(list[0], list[1:]...))
	}
	return voyages
}

func sameVoyages(a, b []impl.Voyage) bool {
	return slices.EqualFunc(a, b, func(v, w impl.Voyage) bool { return v.To == w.To && slices.Equal(v.Group, w.Group) })
}

func allIsles() []impl.Isles {
	var list []impl.Isles
	for couples := 1; couples <= impl.MaxPairs; couples++ {
		for seats := 1; seats <= 3; seats++ {
			for islands := 0; islands <= impl.MaxIslands; islands++ {
				list = append(list, impl.Isles{Couples: couples, Seats: seats, Islands: islands})
			}
		}
	}
	return list
}

// badIsles have a number that is none.
func badIsles() []impl.Isles {
	var list []impl.Isles
	for _, n := range []int{math.MinInt, -1, 0, 4, math.MaxInt/2 + 2, math.MaxInt} {
		list = append(list, impl.Isles{Couples: n, Seats: 2}, impl.Isles{Couples: n, Seats: 2, Islands: 1}, impl.Isles{Couples: 2, Seats: n, Islands: 2})
		list = append(list, impl.Isles{Couples: n, Seats: n, Islands: n})
	}
	for _, n := range []int{math.MinInt, -2, -1, 3, math.MaxInt - 1, math.MaxInt} {
		list = append(list, impl.Isles{Couples: 1, Seats: 2, Islands: n}, impl.Isles{Couples: 2, Seats: 1, Islands: n})
	}
	return append(list, impl.Isles{})
}

// badPlaces are no places of two couples and one island.
func badPlaces() []impl.Places {
	list := []impl.Places{{}, {At: []int{}}, {At: make([]int, 1000)}}
	for _, text := range []string{"000@0", "00000@0", "00@0", "000000@0", "0000@1", "0000@2", "2222@0", "1111@2", "0022@1", "0113@0", "3333@3", "0003@3", "0000@3"} {
		list = append(list, placesOf(text))
	}
	for _, n := range []int{math.MinInt, -1, 3, 4, math.MaxInt} {
		list = append(list,
			impl.Places{At: []int{n, 0, 0, 0}}, impl.Places{At: []int{0, 1, 2, n}, Boat: 1}, impl.Places{At: []int{0, 0, n, 0}, Boat: n},
			impl.Places{At: []int{n, n, n, n}, Boat: n}, impl.Places{At: []int{0, 1, 2, 0}, Boat: n}, impl.Places{At: []int{n}, Boat: n})
	}
	return list
}

// allPlaces are all places of isles.
func allPlaces(w impl.Isles) []impl.Places {
	lists := [][]int{nil}
	for range 2 * w.Couples {
		var longer [][]int
		for _, list := range lists {
			for place := range w.Islands + 2 {
				longer = append(longer, append(slices.Clone(list), place))
			}
		}
		lists = longer
	}
	var all []impl.Places
	for _, list := range lists {
		for boat := range w.Islands + 2 {
			if slices.Contains(list, boat) {
				all = append(all, impl.Places{At: slices.Clone(list), Boat: boat})
			}
		}
	}
	return all
}

// peopleAt are those who are at a place.
func peopleAt(s impl.Places, place int) []int {
	var list []int
	for k, at := range s.At {
		if at == place {
			list = append(list, k)
		}
	}
	return list
}

// areCalm tells by the words of the document whether places are calm.
func areCalm(s impl.Places) bool {
	for _, place := range s.At {
		if !calmList(peopleAt(s, place)) {
			return false
		}
	}
	return true
}

// afterVoyage are the places behind people sailing to a place.
func afterVoyage(s impl.Places, to int, group []int) impl.Places {
	there := impl.Places{At: slices.Clone(s.At), Boat: to}
	for _, k := range group {
		there.At[k] = to
	}
	return there
}

// isVoyage tells by the words of the document whether an increasing list of people is the group of a voyage in calm places.
func isVoyage(w impl.Isles, s impl.Places, to int, group []int) bool {
	if to < 0 || to > w.Islands+1 || to == s.Boat || len(group) < 1 || len(group) > w.Seats {
		return false
	}
	if slices.ContainsFunc(group, func(k int) bool { return s.At[k] != s.Boat }) {
		return false
	}
	return calmList(group) && areCalm(afterVoyage(s, to, group))
}

// voyagesBySets are the voyages in calm places found by going through all sets of people.
func voyagesBySets(w impl.Isles, s impl.Places) []stride[string] {
	var voyages []stride[string]
	sets := setsOf(2 * w.Couples)
	for to := range w.Islands + 2 {
		for _, group := range sets {
			if isVoyage(w, s, to, group) {
				voyages = append(voyages, stride[string]{append([]int{to}, group...), placesText(afterVoyage(s, to, group))})
			}
		}
	}
	return voyages
}

func TestExampleOfChapter6(t *testing.T) {
	for _, c := range []struct{ couples, seats, islands, voyages int }{{1, 2, 0, 1}, {1, 2, 1, 1}, {2, 2, 0, 5}} {
		if n, ok := impl.FewestVoyages(impl.Isles{Couples: c.couples, Seats: c.seats, Islands: c.islands}); n != c.voyages || !ok {
			t.Error("voyages", c, n, ok)
		}
	}
	for _, w := range allIsles() {
		if n, ok := impl.FewestVoyages(w); w.Seats == 1 && (n != 0 || ok) {
			t.Error("one seat", w, n, ok)
		}
	}
	for islands := 1; islands <= impl.MaxIslands; islands++ {
		for _, text := range []string{"0110@0", "0110@1", "2112@1", "2112@2", "2110@1"} {
			if is, ok := impl.AreCalm(impl.Isles{Couples: 2, Seats: 2, Islands: islands}, placesOf(text)); is || !ok {
				t.Error("calm", text, is, ok)
			}
		}
	}
}

func TestIsIsles(t *testing.T) {
	for _, w := range allIsles() {
		if !impl.IsIsles(w) {
			t.Error(w, "are none")
		}
	}
	for _, w := range badIsles() {
		if impl.IsIsles(w) {
			t.Error(w, "are some")
		}
	}
}

func TestFirstAndLastPlaces(t *testing.T) {
	for _, w := range allIsles() {
		for _, c := range []struct {
			of    func(impl.Isles) (impl.Places, bool)
			place int
		}{{impl.FirstPlaces, 0}, {impl.LastPlaces, w.Islands + 1}} {
			want := placesText(impl.Places{At: slices.Repeat([]int{c.place}, 2*w.Couples), Boat: c.place})
			s, ok := c.of(w)
			if !ok || placesText(s) != want {
				t.Errorf("%v: places %v, %v, want %s", w, s, ok, want)
			}
			if is, ok := impl.AreCalm(w, s); !is || !ok || !impl.ArePlaces(w, s) {
				t.Errorf("%v: %v are not calm", w, s)
			}
		}
	}
	if s, ok := impl.LastPlaces(impl.Isles{Couples: 3, Seats: 1, Islands: 2}); !ok || placesText(s) != "333333@3" {
		t.Error(s, ok)
	}
}

func TestArePlaces(t *testing.T) {
	for _, w := range allIsles() {
		bank := w.Islands + 1
		for _, s := range allPlaces(w) {
			if !impl.ArePlaces(w, s) {
				t.Fatalf("ArePlaces(%v, %v) = false", w, s)
			}
			for _, boat := range []int{-1, 0, 1, 2, 3, 4} {
				if impl.ArePlaces(w, impl.Places{At: s.At, Boat: boat}) != slices.Contains(s.At, boat) {
					t.Fatalf("ArePlaces(%v, %v) with the boat at %d", w, s, boat)
				}
			}
		}
		for k := range 2 * w.Couples {
			for _, n := range []int{math.MinInt, -1, bank + 1, math.MaxInt} {
				for _, boat := range []int{0, bank, n} {
					s := impl.Places{At: make([]int, 2*w.Couples), Boat: boat}
					s.At[(k+1)%len(s.At)] = bank
					s.At[k] = n
					if is := impl.ArePlaces(w, s); is {
						t.Errorf("ArePlaces(%v, %v) = %v", w, s, is)
					}
				}
			}
		}
	}
	for _, s := range badPlaces() {
		if w := (impl.Isles{Couples: 2, Seats: 2, Islands: 1}); impl.ArePlaces(w, s) {
			t.Errorf("ArePlaces(%v, %v) = true", w, s)
		}
	}
}

// checkVoyages checks what is told of the voyages in calm places, and returns their lists.
func checkVoyages(t *testing.T, w impl.Isles, s impl.Places) [][]int {
	t.Helper()
	var want [][]int
	for _, v := range voyagesBySets(w, s) {
		want = append(want, v.list)
	}
	voyages, ok := impl.VoyagesOf(w, s)
	if !ok || !sameVoyages(voyages, voyagesOf(want)) {
		t.Fatalf("VoyagesOf(%v, %v) = %v, %v, want %v", w, s, voyages, ok, want)
	}
	return want
}

// checkSailed holds Sail, SailAll and VoyageThatFails against each other, and against what a voyage is and where it leads.
func checkSailed(t *testing.T, w impl.Isles, s impl.Places, v impl.Voyage, is bool) {
	t.Helper()
	there, ok := impl.Sail(w, s, v)
	if ok != is || !ok && !isZeroPlaces(there) || ok && placesText(there) != placesText(afterVoyage(s, v.To, v.Group)) {
		t.Fatalf("Sail(%v, %v, %v) = %v, %v, want %v", w, s, v, there, ok, is)
	}
	one := []impl.Voyage{v}
	behind, fine := impl.SailAll(w, s, one)
	if fine != is || !fine && !isZeroPlaces(behind) || fine && placesText(behind) != placesText(there) {
		t.Fatalf("SailAll(%v, %v, %v) = %v, %v, want %v", w, s, one, behind, fine, is)
	}
	if n, fails := impl.VoyageThatFails(w, s, one); n != 0 || fails == is {
		t.Fatalf("VoyageThatFails(%v, %v, %v) = %v, %v", w, s, one, n, fails)
	}
	if !ok {
		return
	}
	// Promise 6: voyages lead from calm places to calm ones, from which the same group comes back.
	if calm, fine := impl.AreCalm(w, there); !calm || !fine {
		t.Fatalf("the places %v behind %v in %v of %v are not calm", there, v, s, w)
	}
	if back, fine := impl.Sail(w, there, sail(s.Boat, v.Group...)); !fine || placesText(back) != placesText(s) {
		t.Fatalf("%v of %v: %v do not come back to %v, but to %v, %v", there, w, v.Group, s, back, fine)
	}
}

// In places that are not calm nothing can be sailed.
func checkNotCalm(t *testing.T, w impl.Isles, s impl.Places) {
	t.Helper()
	v := sail((s.Boat+1)%(w.Islands+2), peopleAt(s, s.Boat)[0])
	if voyages, ok := impl.VoyagesOf(w, s); ok || len(voyages) != 0 {
		t.Fatalf("VoyagesOf(%v, %v) = %v, %v", w, s, voyages, ok)
	}
	if there, ok := impl.Sail(w, s, v); ok || !isZeroPlaces(there) {
		t.Fatalf("Sail(%v, %v, %v) = %v, %v", w, s, v, there, ok)
	}
	for _, list := range [][]impl.Voyage{nil, {v}} {
		if there, ok := impl.SailAll(w, s, list); ok || !isZeroPlaces(there) {
			t.Fatalf("SailAll(%v, %v, %v) = %v, %v", w, s, list, there, ok)
		}
		if n, ok := impl.VoyageThatFails(w, s, list); ok || n != 0 {
			t.Fatalf("VoyageThatFails(%v, %v, %v) = %v, %v", w, s, list, n, ok)
		}
	}
}

// All places: those that are not calm, and those that are not reached, with them.
// Where there are many, all groups are sailed, to all places and to two that there are not, only from some of them.
func TestAllPlacesOfAllIsles(t *testing.T) {
	for _, w := range allIsles() {
		places, sets, calm := allPlaces(w), setsOf(2*w.Couples), 0
		step := 1 + len(places)/60
		for n, s := range places {
			is, ok := impl.AreCalm(w, s)
			if is != areCalm(s) || !ok {
				t.Fatalf("AreCalm(%v, %v) = %v, %v", w, s, is, ok)
			}
			if !is {
				checkNotCalm(t, w, s)
				continue
			}
			calm++
			lists := checkVoyages(t, w, s)
			if calm%step != 0 {
				// From the others one voyage is.
				if len(lists) > 0 {
					list := lists[n%len(lists)]
					checkSailed(t, w, s, sail(list[0], list[1:]...), true)
				}
				continue
			}
			for to := -1; to <= w.Islands+2; to++ {
				for _, group := range sets {
					checkSailed(t, w, s, sail(to, group...), isVoyage(w, s, to, group))
				}
			}
		}
		if n, ok := impl.CountCalmPlaces(w); n != calm || !ok {
			t.Errorf("CountCalmPlaces(%v) = %v, %v, want %v", w, n, ok, calm)
		}
	}
}

func TestVoyagesOfSomePlaces(t *testing.T) {
	for _, c := range []struct {
		couples, seats, islands int
		places                  string
		calm                    bool
		want                    []impl.Voyage
	}{
		{1, 1, 0, "00@0", true, []impl.Voyage{sail(1, 0), sail(1, 1)}},
		{1, 2, 0, "00@0", true, []impl.Voyage{sail(1, 0), sail(1, 0, 1), sail(1, 1)}},
		{1, 3, 0, "11@1", true, []impl.Voyage{sail(0, 0), sail(0, 0, 1), sail(0, 1)}},
		{1, 2, 1, "01@1", true, []impl.Voyage{sail(0, 1), sail(2, 1)}},
		{1, 1, 2, "21@2", true, []impl.Voyage{sail(0, 0), sail(1, 0), sail(3, 0)}},
		{2, 2, 0, "0000@0", true, []impl.Voyage{sail(1, 0, 1), sail(1, 0, 2), sail(1, 1), sail(1, 1, 3), sail(1, 2, 3), sail(1, 3)}},
		// No kept one may join the keeper of another couple without its own.
		{2, 2, 1, "0121@1", true, []impl.Voyage{sail(0, 1), sail(2, 3)}},
		{2, 2, 1, "1120@0", true, []impl.Voyage{sail(2, 3)}},
		{2, 2, 1, "1120@1", true, []impl.Voyage{sail(0, 1), sail(2, 0), sail(2, 0, 1)}},
		{2, 1, 0, "1010@1", true, nil},
		{2, 1, 1, "1010@1", true, []impl.Voyage{sail(2, 0), sail(2, 2)}},
		{2, 2, 1, "1010@1", true, []impl.Voyage{sail(0, 0, 2), sail(2, 0), sail(2, 0, 2), sail(2, 2)}},
		{2, 2, 1, "0110@0", false, nil},
		{2, 2, 1, "0110@1", false, nil},
		{2, 2, 2, "2330@3", false, nil},
		{2, 3, 2, "0123@0", true, []impl.Voyage{sail(1, 0), sail(2, 0)}},
		{2, 3, 2, "0123@1", true, []impl.Voyage{sail(0, 1), sail(3, 1)}},
		{2, 3, 2, "0123@3", true, []impl.Voyage{sail(1, 3), sail(2, 3)}},
		// With one seat these are calm, but are not reached; out of the second ones no voyage leads.
		{3, 1, 0, "110000@1", true, []impl.Voyage{sail(0, 0)}},
		{3, 2, 0, "101010@1", true, nil},
		{3, 3, 0, "101010@1", true, []impl.Voyage{sail(0, 0, 2, 4)}},
	} {
		w, s := impl.Isles{Couples: c.couples, Seats: c.seats, Islands: c.islands}, placesOf(c.places)
		if is, ok := impl.AreCalm(w, s); is != c.calm || !ok {
			t.Error("calm", c, is, ok)
		}
		if voyages, ok := impl.VoyagesOf(w, s); ok != c.calm || !sameVoyages(voyages, c.want) {
			t.Error("voyages", c, voyages, ok)
		}
	}
}

func TestVoyagesThatAreNone(t *testing.T) {
	w := impl.Isles{Couples: 2, Seats: 2, Islands: 1}
	for _, c := range []struct {
		places string
		v      impl.Voyage
	}{
		// To where the boat is, and to places that there are not.
		{"0000@0", sail(0, 0, 1)}, {"1100@1", sail(1, 0)}, {"2222@2", sail(2, 0, 1)},
		{"0000@0", sail(-1, 0, 1)}, {"0000@0", sail(3, 0, 1)}, {"0000@0", sail(math.MinInt, 0, 1)}, {"0000@0", sail(math.MaxInt, 0, 1)},
		// Groups of nobody, that do not rise, of too many, and of people that there are not or who are elsewhere.
		{"0000@0", impl.Voyage{}}, {"0000@0", impl.Voyage{To: 1}}, {"0000@0", impl.Voyage{To: 2, Group: []int{}}},
		{"0000@0", sail(1, 1, 0)}, {"0000@0", sail(1, 0, 0)}, {"0000@0", sail(2, 1, 1)}, {"0000@0", sail(2, 3, 1)},
		{"0000@0", sail(1, 0, 1, 2)}, {"0000@0", sail(2, 0, 1, 2, 3)}, {"0000@0", sail(1, 1, 2, 3)}, {"0000@0", sail(2, make([]int, 1000)...)},
		{"0000@0", sail(1, -1)}, {"0000@0", sail(1, 4)}, {"0000@0", sail(1, 3, 4)}, {"0000@0", sail(1, 6)}, {"0000@0", sail(1, -1, 1)},
		{"0000@0", sail(1, math.MinInt)}, {"0000@0", sail(2, math.MaxInt)}, {"0000@0", sail(2, math.MinInt, math.MaxInt)}, {"0000@0", sail(2, 1, math.MaxInt)},
		{"1100@0", sail(2, 0)}, {"1100@1", sail(2, 2)}, {"1100@1", sail(0, 1, 2)}, {"1122@2", sail(0, 0, 1)}, {"0122@1", sail(0, 0)},
		// Groups that are not calm, and those behind which some place is not.
		{"0000@0", sail(1, 0, 3)}, {"0000@0", sail(2, 1, 2)}, {"0000@0", sail(1, 0)}, {"0000@0", sail(2, 2)},
		{"0120@1", sail(2, 1)}, {"0022@0", sail(2, 1)}, {"1100@0", sail(1, 3)},
		// Places that are not calm, even if the places behind are.
		{"0110@1", sail(0, 1)}, {"0110@1", sail(2, 1)}, {"0110@0", sail(1, 0)}, {"2112@2", sail(1, 0)},
	} {
		s := placesOf(c.places)
		if there, ok := impl.Sail(w, s, c.v); ok || !isZeroPlaces(there) {
			t.Errorf("Sail(%v, %v, %v) = %v, %v", w, s, c.v, there, ok)
		}
		if there, ok := impl.SailAll(w, s, []impl.Voyage{c.v}); ok || !isZeroPlaces(there) {
			t.Errorf("SailAll(%v, %v, %v) = %v, %v", w, s, c.v, there, ok)
		}
		if n, ok := impl.VoyageThatFails(w, s, []impl.Voyage{c.v}); n != 0 || ok != areCalm(s) {
			t.Errorf("VoyageThatFails(%v, %v, %v) = %v, %v", w, s, c.v, n, ok)
		}
	}
	for _, v := range []impl.Voyage{sail(1, 0, 1), sail(1, 0, 2), sail(2, 1), sail(2, 1, 3), sail(1, 2, 3), sail(2, 3)} {
		checkSailed(t, w, placesOf("0000@0"), v, true)
	}
}
