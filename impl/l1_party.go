package impl

import (
	"slices"
	"strconv"
	"strings"
)

const MaxPeople = 8
const MaxTime = 1000
const MaxSeats = 3
const MaxTrips = 40

type Party struct {
	Times []int
	Seats int
}

type State struct {
	Over  []bool
	Torch bool
}

// crowd is a set of people. An array, unlike a list, is copied with what holds it and is compared by ==,
// so that no trip or place can share memory with an argument.
type crowd struct {
	in [MaxPeople]bool
}

// crowdOf returns the people of a strictly increasing list of 1..most of so many people.
func crowdOf(list []int, people int, most int) (crowd, bool) {
	var c crowd
	if len(list) < 1 || len(list) > most {
		return crowd{}, false
	}
	last := -1
	for _, k := range list {
		if k <= last || k >= people {
			return crowd{}, false
		}
		c.in[k] = true
		last = k
	}
	return c, true
}

func (c crowd) list() []int {
	var list []int
	for k, in := range c.in {
		if in {
			list = append(list, k)
		}
	}
	return list
}

// slowest returns the greatest of the times of the crowd's people.
func (c crowd) slowest(times []int) int {
	most := 0
	for k, time := range times {
		if c.in[k] {
			most = max(most, time)
		}
	}
	return most
}

// timesHere returns how often a person is in the crowd, so that it can be added up like the times.
func (c crowd) timesHere(k int) int {
	if c.in[k] {
		return 1
	}
	return 0
}

// place is a state of which the crowd is over. Nobody is told beyond the people of the party.
type place struct {
	crowd
	torch bool
}

// everybodyOver returns the place in which all of so many people and the torch are over.
func everybodyOver(people int) place {
	at := place{torch: true}
	for k := range people {
		at.in[k] = true
	}
	return at
}

// placeOf returns the state as a place if the torch is where somebody is.
func placeOf(people int, s State) (place, bool) {
	if len(s.Over) != people || !slices.Contains(s.Over, s.Torch) {
		return place{}, false
	}
	at := place{torch: s.Torch}
	copy(at.in[:], s.Over)
	return at, true
}

func (at place) state(people int) State {
	return State{Over: slices.Clone(at.in[:people]), Torch: at.torch}
}

// atTorch returns those of so many people who are where the torch is.
func (at place) atTorch(people int) []int {
	var here []int
	for k := range people {
		if at.in[k] == at.torch {
			here = append(here, k)
		}
	}
	return here
}

// holds reports whether all people of a trip are where the torch is.
func (at place) holds(trip crowd) bool {
	for k, goes := range trip.in {
		if goes && at.in[k] != at.torch {
			return false
		}
	}
	return true
}

// cross returns the place behind a trip. The same trip leads back again.
func (at place) cross(trip crowd) place {
	for k, goes := range trip.in {
		if goes {
			at.in[k] = !at.in[k]
		}
	}
	at.torch = !at.torch
	return at
}

// tripOf returns the list as a trip if it is one in a place of a party.
func tripOf(p Party, at place, list []int) (crowd, bool) {
	trip, ok := crowdOf(list, len(p.Times), p.Seats)
	if !ok || !at.holds(trip) {
		return crowd{}, false
	}
	return trip, true
}

// walk returns the trips that the lists are, up to the first one that is none, and the place behind them.
func walk(p Party, at place, lists [][]int) ([]crowd, place) {
	var trips []crowd
	for _, list := range lists {
		trip, ok := tripOf(p, at, list)
		if !ok {
			break
		}
		trips = append(trips, trip)
		at = at.cross(trip)
	}
	return trips, at
}

// planOf returns the trips of a plan. Its party may be any.
func planOf(p Party, lists [][]int) ([]crowd, bool) {
	if !IsParty(p) || len(lists) > MaxTrips {
		return nil, false
	}
	trips, end := walk(p, place{}, lists)
	if len(trips) < len(lists) || end != everybodyOver(len(p.Times)) {
		return nil, false
	}
	return trips, true
}

// addUp returns the sum of what is measured of each trip.
func addUp[A any](trips []crowd, measure func(crowd, A) int, about A) int {
	sum := 0
	for _, trip := range trips {
		sum += measure(trip, about)
	}
	return sum
}

// listsFrom returns the lists of at most so many that begin with some and go on with others in their order, at least one.
// Each is put before those that it begins, which makes the order lexicographic.
func listsFrom[T any](begin []T, others []T, most int) [][]T {
	if len(begin) >= most {
		return nil
	}
	var lists [][]T
	for i, k := range others {
		list := append(slices.Clone(begin), k)
		lists = append(lists, list)
		lists = append(lists, listsFrom(list, others[i+1:], most)...)
	}
	return lists
}

// crowdsUpTo returns the crowds of 1..most of so many people, in the order of their lists.
func crowdsUpTo(people int, most int) []crowd {
	var crowds []crowd
	for _, list := range listsFrom(nil, place{}.atTorch(people), most) {
		if c, ok := crowdOf(list, people, most); ok {
			crowds = append(crowds, c)
		}
	}
	return crowds
}

// choose returns one of two bytes.
func choose(first bool, one byte, other byte) byte {
	if first {
		return one
	}
	return other
}

// number reads a number without a sign or superfluous zeros.
func number(s string) (int, bool) {
	n, err := strconv.Atoi(s)
	if err != nil || n < 0 || strconv.Itoa(n) != s {
		return 0, false
	}
	return n, true
}

// parseWords reads at most so many words of a text, each with something between it and the next one, all in the same way.
// An empty text has no words. It fails if one of them cannot be read.
func parseWords[T any](s string, between string, most int, parse func(string) (T, bool)) ([]T, bool) {
	if s == "" {
		return nil, true
	}
	// One word more is enough to tell that there are too many.
	words := strings.SplitN(s, between, most+1)
	if len(words) > most {
		return nil, false
	}
	var list []T
	for _, word := range words {
		x, ok := parse(word)
		if !ok {
			return nil, false
		}
		list = append(list, x)
	}
	return list, true
}

// IsParty reports whether p, whose numbers may be any, is a party.
func IsParty(p Party) bool {
	if len(p.Times) < 1 || len(p.Times) > MaxPeople || p.Seats < 1 || p.Seats > MaxSeats {
		return false
	}
	return slices.Min(p.Times) >= 1 && slices.Max(p.Times) <= MaxTime
}

// IsState reports whether s, which may be of any length, is a state of a party:
// it tells of all people, and the torch is where somebody is.
func IsState(p Party, s State) (bool, bool) {
	if !IsParty(p) {
		return false, false
	}
	_, ok := placeOf(len(p.Times), s)
	return ok, true
}

// FirstState returns the state in which nobody and not the torch is over.
func FirstState(p Party) (State, bool) {
	if !IsParty(p) {
		return State{}, false
	}
	return place{}.state(len(p.Times)), true
}

// LastState returns the state in which all people and the torch are.
func LastState(p Party) (State, bool) {
	if !IsParty(p) {
		return State{}, false
	}
	return everybodyOver(len(p.Times)).state(len(p.Times)), true
}

// partyPlace returns the state of a party as a place. Both may be any.
func partyPlace(p Party, s State) (place, bool) {
	if !IsParty(p) {
		return place{}, false
	}
	return placeOf(len(p.Times), s)
}

// CanCross reports whether a list of any numbers is a trip in a state.
func CanCross(p Party, s State, trip []int) (bool, bool) {
	at, ok := partyPlace(p, s)
	if !ok {
		return false, false
	}
	_, can := tripOf(p, at, trip)
	return can, true
}

// CrossBridge returns the state behind a trip. It fails if the list is none.
func CrossBridge(p Party, s State, trip []int) (State, bool) {
	return PlayTrips(p, s, [][]int{trip})
}

// TripTime returns the time of a strictly increasing list of 1..Seats people.
func TripTime(p Party, trip []int) (int, bool) {
	if !IsParty(p) {
		return 0, false
	}
	c, ok := crowdOf(trip, len(p.Times), p.Seats)
	if !ok {
		return 0, false
	}
	return c.slowest(p.Times), true
}

// TripsOf returns all trips in a state, in order.
func TripsOf(p Party, s State) ([][]int, bool) {
	at, ok := partyPlace(p, s)
	if !ok {
		return nil, false
	}
	return listsFrom(nil, at.atTorch(len(p.Times)), p.Seats), true
}

// PlayTrips returns the state behind at most MaxTrips trips, one after the other. It fails if one of them is none.
func PlayTrips(p Party, s State, trips [][]int) (State, bool) {
	at, ok := partyPlace(p, s)
	if !ok || len(trips) > MaxTrips {
		return State{}, false
	}
	gone, end := walk(p, at, trips)
	if len(gone) < len(trips) {
		return State{}, false
	}
	return end.state(len(p.Times)), true
}

// TripThatFails returns the index of the first one of at most MaxTrips lists that is no trip. It fails if all are.
func TripThatFails(p Party, s State, trips [][]int) (int, bool) {
	at, ok := partyPlace(p, s)
	if !ok || len(trips) > MaxTrips {
		return 0, false
	}
	gone, _ := walk(p, at, trips)
	if len(gone) == len(trips) {
		return 0, false
	}
	return len(gone), true
}

// PlanTime returns the times of all trips of a plan together. It fails for other lists.
func PlanTime(p Party, trips [][]int) (int, bool) {
	plan, ok := planOf(p, trips)
	return addUp(plan, crowd.slowest, p.Times), ok
}

// IsPlan reports whether lists of any numbers are a plan. More than MaxTrips lists are none: any lists may be asked about.
func IsPlan(p Party, trips [][]int) (bool, bool) {
	_, ok := planOf(p, trips)
	return ok, IsParty(p)
}

// BackPlan returns the trips of a plan in the other order: a plan, too. It fails for other lists.
func BackPlan(p Party, trips [][]int) ([][]int, bool) {
	plan, ok := planOf(p, trips)
	var back [][]int
	for _, trip := range slices.Backward(plan) {
		back = append(back, trip.list())
	}
	return back, ok
}

// TimesWalked returns how often each person crosses in a plan. It fails for other lists.
func TimesWalked(p Party, trips [][]int) ([]int, bool) {
	plan, ok := planOf(p, trips)
	if !ok {
		return nil, false
	}
	walked := make([]int, len(p.Times))
	for k := range walked {
		walked[k] = addUp(plan, crowd.timesHere, k)
	}
	return walked, true
}

// SortParty returns the party with its times increasing or staying the same.
func SortParty(p Party) (Party, bool) {
	if !IsParty(p) {
		return Party{}, false
	}
	sorted := Party{Times: slices.Clone(p.Times), Seats: p.Seats}
	slices.Sort(sorted.Times)
	return sorted, true
}

// DropPerson returns the party without a person. It fails if there is no other one.
func DropPerson(p Party, k int) (Party, bool) {
	if !IsParty(p) || k < 0 || k >= len(p.Times) || len(p.Times) == 1 {
		return Party{}, false
	}
	return Party{Times: slices.Concat(p.Times[:k], p.Times[k+1:]), Seats: p.Seats}, true
}

// SlowParty returns the party with all times so many times as great, times at least 1. It fails if one becomes too great.
func SlowParty(p Party, times int) (Party, bool) {
	// Dividing the limit, unlike multiplying the times, cannot overflow.
	if !IsParty(p) || times < 1 || slices.Max(p.Times) > MaxTime/times {
		return Party{}, false
	}
	slow := Party{Times: slices.Clone(p.Times), Seats: p.Seats}
	for k := range slow.Times {
		slow.Times[k] *= times
	}
	return slow, true
}

// StateText returns for each person x if it is over, . if not, and > behind if the torch is over, < if not.
func StateText(p Party, s State) (string, bool) {
	at, ok := partyPlace(p, s)
	if !ok {
		return "", false
	}
	var text strings.Builder
	for k := range p.Times {
		text.WriteByte(choose(at.in[k], 'x', '.'))
	}
	text.WriteByte(choose(at.torch, '>', '<'))
	return text.String(), true
}

// PartyText returns Seats, :, and the times with , between them.
func PartyText(p Party) (string, bool) {
	if !IsParty(p) {
		return "", false
	}
	words := make([]string, len(p.Times))
	for k, time := range p.Times {
		words[k] = strconv.Itoa(time)
	}
	return strconv.Itoa(p.Seats) + ":" + strings.Join(words, ","), true
}

// ParseParty returns the party with a PartyText. It fails if there is none.
func ParseParty(s string) (Party, bool) {
	// Without :, no times are told, which no party has.
	head, tail, _ := strings.Cut(s, ":")
	seats, fine := number(head)
	times, ok := parseWords(tail, ",", MaxPeople, number)
	p := Party{Times: times, Seats: seats}
	if !fine || !ok || !IsParty(p) {
		return Party{}, false
	}
	return p, true
}
