package tests

import (
	"fmt"
	"regexp"
	"strconv"
	"strings"

	"loop.example/g01272/impl"
)

// told is what the word behind the first one tells.
type told struct {
	number int
	list   []int
	party  impl.Party
	keep   impl.Keep
	crew   impl.Crew
}

// row is a row of the document's table: what the word behind the first one has to be (nothing, or one of N, L, P, K and C),
// and what is done by calls. Its last result is false if a call fails.
type row struct {
	behind string
	do     func(d impl.Desk, w told) (impl.Desk, string, bool)
}

// digitsOf tells a list of people or things as the document says.
func digitsOf(list []int) string {
	if len(list) == 0 {
		return "-"
	}
	text := ""
	for _, k := range list {
		text += fmt.Sprint(k)
	}
	return text
}

func listsText(lists [][]int) string {
	if len(lists) == 0 {
		return "-"
	}
	text := ""
	for _, list := range lists {
		text += "," + digitsOf(list)
	}
	return text[1:]
}

// withParty is the desk with a party, all of whose people are where they begin.
func withParty(d impl.Desk, p impl.Party, ok bool) (impl.Desk, string, bool) {
	d.Party, d.Now = p, impl.State{Over: make([]bool, len(p.Times))}
	return d, partyText(p), ok
}

func withNow(d impl.Desk, s impl.State, ok bool) (impl.Desk, string, bool) {
	d.Now = s
	if !ok {
		return d, "", false
	}
	return d, textOf(s), true
}

func withCrew(d impl.Desk, c impl.Crew, ok bool) (impl.Desk, string, bool) {
	d.Crew = c
	return d, crewText(c), ok
}

// asks is a row that changes nothing.
func asks(tell func(d impl.Desk) (string, bool)) row {
	return row{"", func(d impl.Desk, _ told) (impl.Desk, string, bool) {
		text, ok := tell(d)
		return d, text, ok
	}}
}

func asksNumber(call func(d impl.Desk) (int, bool)) row {
	return asks(func(d impl.Desk) (string, bool) {
		n, ok := call(d)
		return fmt.Sprint(n), ok
	})
}

func asksLists(call func(d impl.Desk) ([][]int, bool)) row {
	return asks(func(d impl.Desk) (string, bool) {
		lists, ok := call(d)
		return listsText(lists), ok
	})
}

// deskTable is the document's table.
var deskTable = map[string]row{
	"party": {"P", func(d impl.Desk, w told) (impl.Desk, string, bool) { return withParty(d, w.party, true) }},
	"seats": {"N", func(d impl.Desk, w told) (impl.Desk, string, bool) {
		return withParty(d, impl.Party{Times: d.Party.Times, Seats: w.number}, w.number >= 1 && w.number <= impl.MaxSeats)
	}},
	"sort": {"", func(d impl.Desk, _ told) (impl.Desk, string, bool) {
		p, ok := impl.SortParty(d.Party)
		return withParty(d, p, ok)
	}},
	"drop": {"N", func(d impl.Desk, w told) (impl.Desk, string, bool) {
		p, ok := impl.DropPerson(d.Party, w.number)
		return withParty(d, p, ok)
	}},
	"slow": {"N", func(d impl.Desk, w told) (impl.Desk, string, bool) {
		p, ok := impl.SlowParty(d.Party, w.number)
		return withParty(d, p, ok)
	}},
	"cross": {"L", func(d impl.Desk, w told) (impl.Desk, string, bool) {
		s, ok := impl.CrossBridge(d.Party, d.Now, w.list)
		return withNow(d, s, ok)
	}},
	"first": {"", func(d impl.Desk, _ told) (impl.Desk, string, bool) {
		s, ok := impl.FirstState(d.Party)
		return withNow(d, s, ok)
	}},
	"last": {"", func(d impl.Desk, _ told) (impl.Desk, string, bool) {
		s, ok := impl.LastState(d.Party)
		return withNow(d, s, ok)
	}},
	"keep": {"K", func(d impl.Desk, w told) (impl.Desk, string, bool) {
		d.Keep = w.keep
		return d, keepText(w.keep), true
	}},
	"crew": {"C", func(d impl.Desk, w told) (impl.Desk, string, bool) { return withCrew(d, w.crew, true) }},
	"teach": {"N", func(d impl.Desk, w told) (impl.Desk, string, bool) {
		c, ok := impl.TeachPerson(d.Crew, w.number)
		return withCrew(d, c, ok)
	}},
	"cost": {"N", func(d impl.Desk, w told) (impl.Desk, string, bool) {
		n, ok := impl.CostOf(d.Party, w.number)
		return d, fmt.Sprint(n), ok
	}},
	"show":  asks(func(d impl.Desk) (string, bool) { return impl.PartyText(d.Party) }),
	"now":   asks(func(d impl.Desk) (string, bool) { return impl.StateText(d.Party, d.Now) }),
	"least": asksNumber(func(d impl.Desk) (int, bool) { return impl.LeastTime(d.Party) }),
	"trips": asksNumber(func(d impl.Desk) (int, bool) { return impl.FewestTrips(d.Party) }),
	"many":  asksNumber(func(d impl.Desk) (int, bool) { return impl.CountBest(d.Party) }),
	"best":  asksLists(func(d impl.Desk) ([][]int, bool) { return impl.FirstBest(d.Party) }),
	"left":  asksNumber(func(d impl.Desk) (int, bool) { return impl.TimeFrom(d.Party, d.Now) }),
	"gone":  asksNumber(func(d impl.Desk) (int, bool) { return impl.TimeTo(d.Party, d.Now) }),
	"rides": asksNumber(func(d impl.Desk) (int, bool) { return impl.FewestRides(d.Keep) }),
	"ferry": asksLists(func(d impl.Desk) ([][]int, bool) { return impl.FirstRides(d.Keep) }),
	"need":  asksNumber(func(d impl.Desk) (int, bool) { return impl.LeastSeats(d.Keep) }),
	"watch": asks(func(d impl.Desk) (string, bool) {
		list, ok := impl.LeastWatched(d.Keep)
		return digitsOf(list), ok
	}),
	"row":   asksNumber(func(d impl.Desk) (int, bool) { return impl.FewestOfCrew(d.Crew) }),
	"boat":  asksLists(func(d impl.Desk) ([][]int, bool) { return impl.FirstOfCrew(d.Crew) }),
	"most":  asksNumber(func(d impl.Desk) (int, bool) { return impl.LeastMost(d.Crew) }),
	"carry": asksNumber(func(d impl.Desk) (int, bool) { return impl.LeastCarried(d.Crew) }),
}

// numberShape is the shape of the numbers 0..999999.
var numberShape = regexp.MustCompile(`^(0|[1-9][0-9]{0,5})$`)

// tellOf tells what a word is that has to be one of N, L, P, K and C.
func tellOf(kind string, word string) (w told, ok bool) {
	switch kind {
	case "N":
		w.number, _ = strconv.Atoi(word)
		return w, numberShape.MatchString(word)
	case "L":
		for _, part := range strings.Split(word, ",") {
			if !numberShape.MatchString(part) {
				return told{}, false
			}
			n, _ := strconv.Atoi(part)
			w.list = append(w.list, n)
		}
		return w, true
	case "P":
		w.party, ok = impl.ParseParty(word)
	case "K":
		w.keep, ok = impl.ParseKeep(word)
	case "C":
		w.crew, ok = impl.ParseCrew(word)
	}
	return w, ok
}

// byTable is what the document's table tells of a line: the desk behind it, and the reply.
func byTable(d impl.Desk, line string) (impl.Desk, string) {
	words := strings.Split(line, " ")
	r, known := deskTable[words[0]]
	if !known {
		return d, "what"
	}
	var w told
	if r.behind == "" {
		if len(words) != 1 {
			return d, "what"
		}
	} else {
		if len(words) != 2 {
			return d, "what"
		}
		var ok bool
		if w, ok = tellOf(r.behind, words[1]); !ok {
			return d, "what"
		}
	}
	behind, reply, ok := r.do(d, w)
	if !ok {
		return d, "no"
	}
	return behind, reply
}
