package tests

import (
	"fmt"
	"slices"
	"strings"
	"testing"

	"loop.example/g01272/impl"
)

// partyText writes a PartyText without the package's help.
func partyText(p impl.Party) string {
	var times []string
	for _, time := range p.Times {
		times = append(times, fmt.Sprint(time))
	}
	return fmt.Sprintf("%d:%s", p.Seats, strings.Join(times, ","))
}

// deskText tells all of a desk without the package's help.
func deskText(d impl.Desk) string {
	return strings.Join([]string{partyText(d.Party), textOf(d.Now), keepText(d.Keep), crewText(d.Crew)}, " ")
}

// deskOf reads what deskText tells. The state may be one of another party.
func deskOf(t *testing.T, text string) impl.Desk {
	t.Helper()
	texts := strings.Split(text, " ")
	return impl.Desk{Party: party(t, texts[0]), Now: stateOf(texts[1]), Keep: keep(t, texts[2]), Crew: crew(t, texts[3])}
}

func sameDesk(a, b impl.Desk) bool {
	return sameParty(a.Party, b.Party) && sameState(a.Now, b.Now) && sameKeep(a.Keep, b.Keep) && sameCrew(a.Crew, b.Crew)
}

func isZeroDesk(d impl.Desk) bool { return sameDesk(d, impl.Desk{}) }

// atFirst is the desk that FirstDesk returns, written out.
func atFirst() impl.Desk {
	return impl.Desk{
		Party: impl.Party{Times: []int{1, 2, 5, 10}, Seats: 2},
		Now:   impl.State{Over: make([]bool, 4)},
		Keep:  impl.Keep{Things: 3, Dangers: [][]int{{0, 1}, {1, 2}}, Seats: 1},
		Crew:  impl.Crew{Weights: []int{50, 50, 100}, Rows: []bool{true, true, true}, Most: 100},
	}
}

// someDesks are desks with small parts, and with great ones.
func someDesks(t *testing.T) []impl.Desk {
	t.Helper()
	var desks []impl.Desk
	for _, text := range []string{
		"2:1,2,5,10 ....< 3/1/01.12 100=50r,50r,100r",
		"1:7 .< 0/0/ 0=1",
		"1:7 x> 0/8/ 1=1r",
		"3:1000 x> 1/0/ 2000=500",
		"1:3,4 .x< 2/0/01 100=50,50",
		"2:1,10,10,10,10 xx...> 3/2/01.02.12 99=50r,50r",
		"3:9,8,7,6,5,4,3,2 xxxxxxxx> 8/8/67 2000=500r,1,500,10r,20r,30,499r",
		"2:1000,7,1,1,3,999,2,8 x.x.x.x.< 5/3/01.02.03.04.12.34 7=4r,7r,1r,7r,2r",
	} {
		desks = append(desks, deskOf(t, text))
	}
	return desks
}

// badDesks have one part that is none, and a state of another party.
func badDesks(t *testing.T) []impl.Desk {
	t.Helper()
	var desks []impl.Desk
	change := func(set func(*impl.Desk)) {
		d := atFirst()
		set(&d)
		desks = append(desks, d)
	}
	desks = append(desks, impl.Desk{})
	for _, p := range badParties() {
		change(func(d *impl.Desk) { d.Party = p })
		change(func(d *impl.Desk) { d.Party, d.Now = p, impl.State{Over: make([]bool, len(p.Times))} })
	}
	for _, s := range badStates() {
		change(func(d *impl.Desk) { d.Now = s })
	}
	for _, k := range badKeeps() {
		change(func(d *impl.Desk) { d.Keep = k })
	}
	for _, c := range badCrews() {
		change(func(d *impl.Desk) { d.Crew = c })
	}
	for _, text := range []string{"1:7", "2:1,2,5", "2:1,2,5,10,20", "3:9,8,7,6,5,4,3,2"} {
		change(func(d *impl.Desk) { d.Party = party(t, text) })
	}
	change(func(d *impl.Desk) { d.Party = impl.Party{} })
	change(func(d *impl.Desk) { d.Keep = impl.Keep{Things: 1, Dangers: d.Keep.Dangers} })
	change(func(d *impl.Desk) { d.Crew = impl.Crew{} })
	return desks
}

func TestFirstDesk(t *testing.T) {
	for range 3 {
		d := impl.FirstDesk()
		if !sameDesk(d, atFirst()) {
			t.Fatal(d)
		}
		if text, ok := impl.PartyText(d.Party); !ok || text != "2:1,2,5,10" {
			t.Error(text, ok)
		}
		if text, ok := impl.StateText(d.Party, d.Now); !ok || text != "....<" {
			t.Error(text, ok)
		}
		if first, ok := impl.FirstState(d.Party); !ok || !sameState(d.Now, first) {
			t.Error(first, ok)
		}
		if text, ok := impl.KeepText(d.Keep); !ok || text != "3/1/01.12" {
			t.Error(text, ok)
		}
		if text, ok := impl.CrewText(d.Crew); !ok || text != "100=50r,50r,100r" {
			t.Error(text, ok)
		}
		// What is done to this desk does not come into the next one.
		scribble(d)
	}
}

func TestIsDesk(t *testing.T) {
	if !impl.IsDesk(impl.FirstDesk()) {
		t.Error("FirstDesk is none")
	}
	for _, d := range someDesks(t) {
		if !impl.IsDesk(d) {
			t.Error("no desk:", deskText(d))
		}
	}
	for _, d := range badDesks(t) {
		if impl.IsDesk(d) {
			t.Error("a desk:", d)
		}
	}
}

// A desk has any state of its party, and the parts do not depend on each other otherwise.
func TestIsDeskOfAllStates(t *testing.T) {
	others := someDesks(t)
	for n, p := range allParties() {
		d := others[n%len(others)]
		d.Party = p
		for people := 1; people <= 6; people++ {
			for set := range 1 << people {
				for _, torch := range []bool{false, true} {
					d.Now = impl.State{Over: make([]bool, people), Torch: torch}
					for k := range people {
						d.Now.Over[k] = set>>k&1 == 1
					}
					want := people == len(p.Times) && slices.Contains(d.Now.Over, torch)
					if impl.IsDesk(d) != want {
						t.Fatalf("IsDesk(%s) = %v", deskText(d), !want)
					}
				}
			}
		}
	}
}
