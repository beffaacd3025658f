package tests

import (
	"slices"
	"testing"

	"loop.example/g01272/impl"
)

// trek is a round from a camp that is told by the map.
type trek struct {
	round [][]int
	there string
}

// nightMap tells of all camps of a night, by their texts, what is found by going on as long as some time gets less.
// A camp from which nobody comes over with everybody has no time in it.
type nightMap struct {
	n     impl.Night
	camps []impl.Camp
	treks map[string][]trek
	left  map[string]int
}

// treksOf are the rounds in each camp, which depend on no times.
func treksOf(n impl.Night, camps []impl.Camp) map[string][]trek {
	treks := map[string][]trek{}
	for _, c := range camps {
		for _, round := range roundsBySets(n, c) {
			treks[campText(c)] = append(treks[campText(c)], trek{round, campText(afterRound(c, round))})
		}
	}
	return treks
}

// knownTreks keeps treks by people, seats and torches.
type knownTreks map[[3]int]map[string][]trek

func (known knownTreks) mapOf(n impl.Night) nightMap {
	m := nightMap{n: n, camps: campsOf(len(n.Times), n.Torches), left: map[string]int{}}
	key := [3]int{len(n.Times), n.Seats, n.Torches}
	if known[key] == nil {
		known[key] = treksOf(n, m.camps)
	}
	m.treks = known[key]
	for _, c := range m.camps {
		if isOver(c) {
			m.left[campText(c)] = 0
		}
	}
	for changed := true; changed; {
		changed = false
		for _, c := range m.camps {
			changed = m.relax(campText(c)) || changed
		}
	}
	return m
}

// isOver tells whether everybody is over.
func isOver(c impl.Camp) bool { return !slices.Contains(c.Over, false) }

// relax lowers the time of a camp if a round makes it less.
func (m nightMap) relax(at string) bool {
	changed := false
	for _, k := range m.treks[at] {
		if time, ok := m.left[k.there]; ok {
			changed = lessen(m.left, at, time+slowestIn(m.n.Times, k.round)) || changed
		}
	}
	return changed
}

func (m nightMap) first() string { return campText(impl.Camp{Over: make([]bool, len(m.n.Times))}) }

func (m nightMap) hasPlan() bool {
	_, ok := m.left[m.first()]
	return ok
}

func (m nightMap) least() int { return m.left[m.first()] }

// goOn are the rounds, in order, that lose no time in a camp.
func (m nightMap) goOn(at string) []trek {
	var list []trek
	for _, k := range m.treks[at] {
		if slowestIn(m.n.Times, k.round)+m.left[k.there] == m.left[at] {
			list = append(list, k)
		}
	}
	return list
}

// firstPlan is the plan that goes the first way that loses no time.
func (m nightMap) firstPlan() [][][]int {
	var plan [][][]int
	for at := m.first(); m.left[at] > 0; {
		k := m.goOn(at)[0]
		plan = append(plan, k.round)
		at = k.there
	}
	return plan
}

// bestPlans adds to plans those that go on without losing time, as long as there are at most so many.
func (m nightMap) bestPlans(at string, gone [][][]int, plans *[][][][]int, most int) {
	if len(*plans) > most {
		return
	}
	if m.left[at] == 0 {
		*plans = append(*plans, slices.Clone(gone))
		return
	}
	for _, k := range m.goOn(at) {
		m.bestPlans(k.there, append(slices.Clip(gone), k.round), plans, most)
	}
}

// spread is how many camps are reached, and the fewest rounds to one in which everybody is over, or -1,
// found by going one round further again and again.
func (m nightMap) spread() (int, int) {
	fewest := -1
	seen := map[string]bool{m.first(): true}
	edge := []string{m.first()}
	for rounds := 0; len(edge) > 0; rounds++ {
		var next []string
		for _, at := range edge {
			if fewest < 0 && isOver(campOf(at)) {
				fewest = rounds
			}
			for _, k := range m.treks[at] {
				if !seen[k.there] {
					seen[k.there] = true
					next = append(next, k.there)
				}
			}
		}
		edge = next
	}
	return len(seen), fewest
}

// playNight plays the rounds of a plan one by one, and returns their times together.
func playNight(t *testing.T, n impl.Night, plan [][][]int) int {
	t.Helper()
	start, _ := impl.FirstCamp(n)
	at, sum := start, 0
	for i, round := range plan {
		rounds, ok := impl.RoundsOfNight(n, at)
		if !ok || !slices.ContainsFunc(rounds, func(x [][]int) bool { return sameLists(x, round) }) {
			t.Fatalf("RoundsOfNight(%v, %s) = %v, %v, without %v", n, campText(at), rounds, ok, round)
		}
		checkRound(t, n, at, round)
		there, _ := impl.RoundAfter(n, at, round)
		if all, ok := impl.RoundsAfter(n, start, plan[:i+1]); !ok || campText(all) != campText(there) {
			t.Fatalf("RoundsAfter(%v, %v) = %v, %v, want %s", n, plan[:i+1], all, ok, campText(there))
		}
		time, _ := impl.RoundTime(n, round)
		sum += time
		at = there
	}
	if !isOver(at) {
		t.Fatalf("%v lead %v to %s", plan, n, campText(at))
	}
	if is, ok := impl.IsNightPlan(n, plan); !is || !ok {
		t.Fatalf("IsNightPlan(%v, %v) = %v, %v", n, plan, is, ok)
	}
	if time, ok := impl.NightTime(n, plan); time != sum || !ok {
		t.Fatalf("NightTime(%v, %v) = %v, %v, want %v", n, plan, time, ok, sum)
	}
	return sum
}

// checkNightPlans checks least times, fewest rounds, and the first plan, which is played.
func checkNightPlans(t *testing.T, m nightMap) {
	t.Helper()
	has := m.hasPlan()
	if time, ok := impl.LeastNight(m.n); time != m.least() || ok != has {
		t.Fatalf("LeastNight(%v) = %v, %v, want %v, %v", m.n, time, ok, m.least(), has)
	}
	reached, fewest := m.spread()
	if count, ok := impl.CountCampsReached(m.n); count != reached || !ok {
		t.Fatalf("CountCampsReached(%v) = %v, %v, want %v", m.n, count, ok, reached)
	}
	if rounds, ok := impl.FewestRounds(m.n); rounds != max(0, fewest) || ok != has || has != (fewest >= 0) {
		t.Fatalf("FewestRounds(%v) = %v, %v, want %v", m.n, rounds, ok, fewest)
	}
	var want [][][]int
	var plans [][][][]int
	if has {
		want = m.firstPlan()
		m.bestPlans(m.first(), nil, &plans, 300)
	}
	if len(plans) > 0 && len(plans) <= 300 {
		want = slices.MinFunc(plans, func(a, b [][][]int) int { return slices.CompareFunc(a, b, comparePlans) })
	}
	plan, ok := impl.FirstNight(m.n)
	if ok != has || !sameRounds(plan, want) {
		t.Fatalf("FirstNight(%v) = %v, %v, want %v, %v", m.n, plan, ok, want, has)
	}
	if has && (playNight(t, m.n, plan) != m.least() || len(plan) < fewest) {
		t.Fatalf("FirstNight(%v) = %v, but the least time is %d, and the fewest rounds %d", m.n, plan, m.least(), fewest)
	}
}

// checkTimesFrom checks the times from some camps.
func checkTimesFrom(t *testing.T, m nightMap, camps []impl.Camp) {
	t.Helper()
	for _, c := range camps {
		at := campText(c)
		want, leads := m.left[at]
		left, ok := impl.TimeFromCamp(m.n, c)
		if left != want || ok != leads {
			t.Fatalf("TimeFromCamp(%v, %s) = %v, %v, want %v, %v", m.n, at, left, ok, want, leads)
		}
		if left == 0 && ok != isOver(c) {
			t.Fatalf("TimeFromCamp(%v, %s) = %v, %v", m.n, at, left, ok)
		}
	}
}

// checkSteps checks that in all camps of a night each round makes TimeFromCamp less by its RoundTime at most, and some round by just that.
func checkSteps(t *testing.T, n impl.Night) {
	t.Helper()
	for _, c := range campsOf(len(n.Times), n.Torches) {
		left, leads := impl.TimeFromCamp(n, c)
		rounds, _ := impl.RoundsOfNight(n, c)
		tight := false
		for _, round := range rounds {
			there, _ := impl.RoundAfter(n, c, round)
			time, _ := impl.RoundTime(n, round)
			later, ok := impl.TimeFromCamp(n, there)
			if ok != leads || ok && left > time+later {
				t.Fatalf("%v: %d, %v is left in %s, but %d, %v behind %v", n, left, leads, campText(c), later, ok, round)
			}
			tight = tight || ok && left == time+later
		}
		if leads && tight == isOver(c) {
			t.Fatalf("%v: %d is left in %s, with a round that loses no time: %v", n, left, campText(c), tight)
		}
	}
}

// checkGain checks promise 8 for a second torch, which never costs.
func checkGain(t *testing.T, known knownTreks, n impl.Night) {
	t.Helper()
	one := known.mapOf(impl.Night{Times: n.Times, Seats: n.Seats, Torches: 1})
	two := known.mapOf(impl.Night{Times: n.Times, Seats: n.Seats, Torches: 2})
	both, want := one.hasPlan() && two.hasPlan(), 0
	if both {
		want = one.least() - two.least()
	}
	gain, ok := impl.TorchGain(n)
	if gain != want || ok != both || gain < 0 {
		t.Fatalf("TorchGain(%v) = %v, %v, want %v, %v", n, gain, ok, want, both)
	}
	if one.hasPlan() && !two.hasPlan() {
		t.Fatalf("%v has a plan with one torch alone", n)
	}
}

// checkOneTorch holds nights of one torch against parties of chapters 1 and 3, whose trips are their rounds.
func checkOneTorch(t *testing.T, n impl.Night) {
	t.Helper()
	if n.Torches != 1 {
		return
	}
	p := impl.Party{Times: n.Times, Seats: n.Seats}
	least, has := impl.LeastTime(p)
	if time, ok := impl.LeastNight(n); time != least || ok != has {
		t.Fatalf("LeastNight(%v) = %v, %v, want %v, %v", n, time, ok, least, has)
	}
	trips, _ := impl.FewestTrips(p)
	if rounds, ok := impl.FewestRounds(n); rounds != trips || ok != has {
		t.Fatalf("FewestRounds(%v) = %v, %v, want %v, %v", n, rounds, ok, trips, has)
	}
	reached, _ := impl.ReachedIn(p, impl.MaxWait)
	if count, ok := impl.CountCampsReached(n); count != reached || !ok {
		t.Fatalf("CountCampsReached(%v) = %v, %v, want %v", n, count, ok, reached)
	}
	var want [][][]int
	best, _ := impl.FirstBest(p)
	for _, trip := range best {
		want = append(want, [][]int{trip})
	}
	if plan, ok := impl.FirstNight(n); !sameRounds(plan, want) || ok != has {
		t.Fatalf("FirstNight(%v) = %v, %v, want %v, %v", n, plan, ok, want, has)
	}
}

// Promise 8, with all nights of few people, and all that is told of their plans.
func TestAllSmallNights(t *testing.T) {
	known := knownTreks{}
	for _, n := range smallNights() {
		m := known.mapOf(n)
		checkNightPlans(t, m)
		checkTimesFrom(t, m, m.camps)
		checkGain(t, known, n)
		checkOneTorch(t, n)
	}
}

// Promise 8, with more people and greater times.
func TestOtherNights(t *testing.T) {
	known := knownTreks{}
	for i, n := range otherNights(2) {
		m := known.mapOf(n)
		checkNightPlans(t, m)
		checkGain(t, known, n)
		checkOneTorch(t, n)
		var camps []impl.Camp
		for j := i % 7; j < len(m.camps); j += 7 {
			camps = append(camps, m.camps[j])
		}
		checkTimesFrom(t, m, append(camps, m.camps[0], m.camps[len(m.camps)-1]))
	}
}

func TestTimesFromCampToCamp(t *testing.T) {
	for _, n := range slices.Concat(nightsOf(1, 2), nightsOf(2, 3), nightsOf(3, 2), nightsWith([]int{9, 1, 4}), nightsWith([]int{1, 2, 5, 10}), nightsWith([]int{7, 3, 3, 1})) {
		checkSteps(t, n)
	}
}

// allPlans adds to plans all plans of at most so many rounds that go on from a camp behind some rounds,
// and checks of all such lists of rounds whether they are plans.
func (m nightMap) allPlans(t *testing.T, at string, gone [][][]int, most int, plans *[][][][]int) {
	t.Helper()
	sum, over := 0, isOver(campOf(at))
	if over {
		*plans = append(*plans, gone)
		for _, round := range gone {
			sum += slowestIn(m.n.Times, round)
		}
	}
	if is, ok := impl.IsNightPlan(m.n, gone); is != over || !ok {
		t.Fatalf("IsNightPlan(%v, %v) = %v, %v", m.n, gone, is, ok)
	}
	if time, ok := impl.NightTime(m.n, gone); time != sum || ok != over {
		t.Fatalf("NightTime(%v, %v) = %v, %v, want %v, %v", m.n, gone, time, ok, sum, over)
	}
	if len(gone) == most {
		return
	}
	for _, k := range m.treks[at] {
		m.allPlans(t, k.there, append(slices.Clip(gone), k.round), most, plans)
	}
}

// No plan of a few rounds has less time than the least, or fewer rounds than the fewest, or comes before the first one with the same time.
func TestNoPlanIsBetter(t *testing.T) {
	known := knownTreks{}
	for _, k := range []struct {
		nights []impl.Night
		most   int
	}{
		{nightsOf(1, 2), 9}, {nightsOf(2, 3), 6}, {nightsWith([]int{2, 1, 1}), 4}, {nightsWith([]int{9, 1, 4}), 4},
		{[]impl.Night{night(t, "1*2:1,2,5,10"), night(t, "1*2:3,1,1,4"), night(t, "1*3:4,1,5,6")}, 5},
		{[]impl.Night{night(t, "2*2:1,2,5,10"), night(t, "2*2:3,1,1,4"), night(t, "2*3:4,1,5,6")}, 3},
	} {
		for _, n := range k.nights {
			m := known.mapOf(n)
			var plans [][][][]int
			m.allPlans(t, m.first(), nil, k.most, &plans)
			least, has := impl.LeastNight(n)
			fewest, _ := impl.FewestRounds(n)
			first, _ := impl.FirstNight(n)
			if has != (len(plans) > 0) {
				t.Fatalf("LeastNight(%v) = %v, %v, but there are %d plans", n, least, has, len(plans))
			}
			for _, plan := range plans {
				time, _ := impl.NightTime(n, plan)
				if time < least || len(plan) < fewest || time == least && slices.CompareFunc(plan, first, comparePlans) < 0 {
					t.Fatalf("%v needs %d for %v: least %d, fewest %d, first %v", n, time, plan, least, fewest, first)
				}
			}
			if !slices.ContainsFunc(plans, func(plan [][][]int) bool { return sameRounds(plan, first) }) == has {
				t.Fatalf("FirstNight(%v) = %v is none of %d plans", n, first, len(plans))
			}
		}
	}
}

func TestSomeNights(t *testing.T) {
	known := knownTreks{}
	for _, k := range []struct {
		night                 string
		least, fewest, camps  int
		oneTorch, secondTorch int // the least time with one torch and with two, or 0
	}{
		// One person alone takes one torch, whether there is another one or not.
		{"1*1:7", 7, 1, 2, 7, 7},
		{"2*1:7", 7, 1, 2, 7, 7},
		{"1*3:1000", 1000, 1, 2, 1000, 1000},
		{"2*3:1000", 1000, 1, 2, 1000, 1000},
		// With one seat as many torches as people are over, so that no more than two people can be.
		{"1*1:3,4", 0, 0, 3, 0, 4},
		{"2*1:3,4", 4, 1, 4, 0, 4},
		{"2*1:3,4,5", 0, 0, 1 + 3 + 3, 0, 0},
		{"2*1:1,1,1,1,1,1", 0, 0, 1 + 6 + 15, 0, 0},
		// With more seats all camps are reached but those of all torches and nobody on one side.
		{"1*2:3,4", 4, 1, 2*4 - 2, 4, 4},
		{"2*3:3,4", 4, 1, 3*4 - 2, 4, 4},
		{"1*2:1,2,5", 8, 3, 2*8 - 2, 8, 5},
		{"2*2:1,2,5", 5, 1, 3*8 - 2, 8, 5},
		{"1*2:1,2,5,10", 17, 5, 2*16 - 2, 17, 10},
		{"2*2:1,2,5,10", 10, 1, 3*16 - 2, 17, 10},
		{"2*2:7,7,7,7", 7, 1, 3*16 - 2, 35, 7},
		{"1*3:1,2,5,10", 13, 3, 2*16 - 2, 13, 10},
		// Four go over, and one of them fetches the fifth one.
		{"2*2:1,2,3,4,5", 8, 3, 3*32 - 2, 16, 8},
		{"2*2:1000,1000,1000,1000,1000", 3000, 3, 3*32 - 2, 7000, 3000},
		// Four go over, and two of them come back, with a torch each.
		{"2*2:1,1,1,1,1,1", 3, 3, 3*64 - 2, 9, 3},
		{"1*2:1,1,1,1,1,1", 9, 9, 2*64 - 2, 9, 3},
		{"2*3:1,2,3,4,5,6", 6, 1, 3*64 - 2, 14, 6},
		{"1*3:1000,1000,1000,1000,1000,1000", 5000, 5, 2*64 - 2, 5000, 1000},
		{"2*3:1000,1000,1000,1000,1000,1000", 1000, 1, 3*64 - 2, 5000, 1000},
	} {
		n := night(t, k.night)
		checkNightPlans(t, known.mapOf(n))
		if time, ok := impl.LeastNight(n); time != k.least || ok != (k.least > 0) {
			t.Error("least", k, time, ok)
		}
		if rounds, ok := impl.FewestRounds(n); rounds != k.fewest || ok != (k.fewest > 0) {
			t.Error("fewest", k, rounds, ok)
		}
		if count, ok := impl.CountCampsReached(n); count != k.camps || !ok {
			t.Error("camps", k, count, ok)
		}
		both, want := k.oneTorch > 0 && k.secondTorch > 0, 0
		if both {
			want = k.oneTorch - k.secondTorch
		}
		if gain, ok := impl.TorchGain(n); gain != want || ok != both {
			t.Error("gain", k, gain, ok)
		}
	}
}

func TestFirstNights(t *testing.T) {
	for _, k := range []struct {
		night string
		plan  [][][]int
	}{
		{"1*1:7", [][][]int{{{0}}}},
		{"2*1:7", [][][]int{{{0}}}},
		{"1*1:3,4", nil},
		{"2*1:3,4", [][][]int{{{0}, {1}}}},
		{"2*2:3,4", [][][]int{{{0}, {1}}}},
		{"1*2:3,4", [][][]int{{{0, 1}}}},
		{"2*1:3,4,5", nil},
		{"2*2:1,2,5", [][][]int{{{0}, {1, 2}}}},
		{"2*3:1,2,5", [][][]int{{{0}, {1, 2}}}},
		{"1*3:1,2,5", [][][]int{{{0, 1, 2}}}},
		{"1*2:1,2,5,10", [][][]int{{{0, 1}}, {{0}}, {{2, 3}}, {{1}}, {{0, 1}}}},
		{"2*2:10,5,2,1", [][][]int{{{0, 1}, {2, 3}}}},
		{"2*3:1,2,5,10", [][][]int{{{0}, {1, 2, 3}}}},
		{"2*2:1,2,3,4,5", [][][]int{{{0, 1}}, {{0}}, {{0, 2}, {3, 4}}}},
		{"2*2:5,5,5,5,5", [][][]int{{{0}, {1, 2}}, {{0}, {1}}, {{0, 1}, {3, 4}}}},
		{"2*3:1,2,3,4,5,6", [][][]int{{{0, 1, 2}, {3, 4, 5}}}},
		{"2*2:1,2,3,4,5,6", [][][]int{{{0, 1}, {2, 3}}, {{0}, {1}}, {{0, 1}, {4, 5}}}},
		// More rounds than the fewest, which are three, need less time.
		{"2*2:1,2,50,60,70,80", [][][]int{{{0, 1}}, {{0}}, {{2, 3}, {4, 5}}, {{1}}, {{0, 1}}}},
		{"2*2:9,9,1,1,5,5", [][][]int{{{2, 3}}, {{2}}, {{0, 1}, {4, 5}}, {{3}}, {{2, 3}}}},
	} {
		plan, ok := impl.FirstNight(night(t, k.night))
		if ok != (k.plan != nil) || !sameRounds(plan, k.plan) {
			t.Error(k, plan, ok)
		}
		if ok {
			playNight(t, night(t, k.night), plan)
		}
	}
}

func TestTimeFromSomeCamps(t *testing.T) {
	for _, k := range []struct {
		night, camp string
		time        int
		ok          bool
	}{
		// Of no rounds, wherever torches are.
		{"2*2:1,2,5,10", "xxxx0", 0, true}, {"2*2:1,2,5,10", "xxxx1", 0, true}, {"2*2:1,2,5,10", "xxxx2", 0, true},
		{"1*1:7", "x0", 0, true}, {"1*1:7", "x1", 0, true}, {"2*1:3,4,5", "xxx0", 0, true}, {"2*1:3,4,5", "xxx1", 0, true}, {"1*1:3,4", "xx0", 0, true},
		{"2*2:1,2,5,10", "....0", 10, true},
		// 0 and 1 go over and come back with a torch each.
		{"2*2:1,2,5,10", "....1", 2 + 2 + 10, true},
		{"2*2:1,2,5,10", "xx..2", 2 + 10, true},
		{"2*2:1,2,5,10", "xx..1", 10, true},
		{"2*2:1,2,5,10", "xx..0", 10, true},
		{"2*2:1,2,5,10", "xxx.2", 1 + 10, true},
		{"1*2:1,2,5,10", "xxx.1", 1 + 10, true},
		{"1*2:1,2,5,10", "xxx.0", 10, true},
		{"1*1:7", ".0", 7, true},
		{"1*2:3,4", "x.1", 3 + 4, true},
		// All torches are where nobody is, who could take one.
		{"2*2:1,2,5,10", "....2", 0, false}, {"1*2:1,2,5,10", "....1", 0, false}, {"1*1:7", ".1", 0, false}, {"2*1:7", ".2", 0, false},
		// A torch lies on the other side, or here, where it is of no use.
		{"2*1:7", ".1", 7, true}, {"2*1:7", ".0", 7, true},
		// Such camps are not reached, but lead over.
		{"1*1:3,4", "x.0", 4, true}, {"2*1:3,4,5", "x..0", 5, true}, {"2*1:3,4,5", "xx.1", 5, true}, {"2*1:3,4,5", "xx.2", 0, false}, {"2*1:3,4,5", "x..1", 0, false}, {"2*1:3,4,5", "...0", 0, false},
	} {
		if time, ok := impl.TimeFromCamp(night(t, k.night), campOf(k.camp)); time != k.time || ok != k.ok {
			t.Error(k, time, ok)
		}
	}
}

// toAndAgain is one person crossing so many times.
func toAndAgain(k int, rounds int) [][][]int { return slices.Repeat([][][]int{{{k}}}, rounds) }

// Lists of no rounds, of MaxRounds and of MaxRounds + 1.
func TestMaxRoundsAndOneMore(t *testing.T) {
	if impl.MaxRounds != 30 {
		t.Fatal(impl.MaxRounds)
	}
	for rounds := range 35 {
		short := rounds <= impl.MaxRounds
		for _, text := range []string{"1*1:7", "2*1:7", "2*3:7"} {
			n, list := night(t, text), toAndAgain(0, rounds)
			over := rounds%2 == 1
			if is, ok := impl.IsNightPlan(n, list); is != (over && short) || ok != short {
				t.Errorf("IsNightPlan of %s and %d rounds = %v, %v", text, rounds, is, ok)
			}
			time, ok := impl.NightTime(n, list)
			if ok != (over && short) || ok && time != 7*rounds || !ok && time != 0 {
				t.Errorf("NightTime of %s and %d rounds = %v, %v", text, rounds, time, ok)
			}
			there, ok := impl.RoundsAfter(n, campOf(".0"), list)
			if ok != short || !ok && !isZeroCamp(there) || ok && (there.Over[0] != over || there.Torches != rounds%2) {
				t.Errorf("RoundsAfter of %s and %d rounds = %v, %v", text, rounds, there, ok)
			}
		}
		// Two people go over one by one, or at once, and then one of them goes to and fro: so plans may have just MaxRounds rounds.
		two := night(t, "2*1:3,4")
		for _, begin := range [][][][]int{{{{0}}, {{1}}}, {{{0}, {1}}}} {
			list := append(slices.Clone(begin), toAndAgain(0, rounds)...)
			want := rounds%2 == 0 && len(list) <= impl.MaxRounds
			if is, ok := impl.IsNightPlan(two, list); is != want || ok != (len(list) <= impl.MaxRounds) {
				t.Errorf("IsNightPlan of %d rounds = %v, %v", len(list), is, ok)
			}
			time, ok := impl.NightTime(two, list)
			if ok != want || !ok && time != 0 || ok && time != 3*rounds+3*(len(begin)-1)+4 {
				t.Errorf("NightTime of %d rounds = %v, %v", len(list), time, ok)
			}
		}
	}
	for _, list := range [][][][]int{make([][][]int, 31), make([][][]int, 1000)} {
		if is, ok := impl.IsNightPlan(night(t, "1*1:7"), list); is || ok {
			t.Errorf("IsNightPlan of %d rounds = %v, %v", len(list), is, ok)
		}
	}
}

func TestIsNightPlan(t *testing.T) {
	for _, k := range []struct {
		night string
		plan  [][][]int
		time  int
	}{
		{"2*2:1,2,5,10", [][][]int{{{0, 1}, {2, 3}}}, 10},
		{"2*2:1,2,5,10", [][][]int{{{0, 3}, {1, 2}}}, 10},
		// Everybody is over, though one of the torches is not.
		{"2*2:1,2,5", [][][]int{{{0, 1}}, {{0}}, {{0, 2}}}, 2 + 1 + 5},
		{"2*2:3,4", [][][]int{{{0, 1}}}, 4},
		{"2*2:3,4", [][][]int{{{0}}, {{1}}}, 7},
		// From both sides at the same time.
		{"2*2:1,2,5", [][][]int{{{0, 2}}, {{0}, {1}}, {{0}}}, 5 + 2 + 1},
		{"2*2:1,2,5,10", [][][]int{{{0, 1}}, {{0}}, {{0, 2}}, {{0}, {3}}, {{0}}}, 2 + 1 + 5 + 10 + 1},
		// It goes on behind the end and comes back to it.
		{"2*2:1,2,5,10", [][][]int{{{0, 1}, {2, 3}}, {{0, 1}, {2, 3}}, {{0, 1}, {2, 3}}}, 30},
		{"2*2:1,2,5,10", [][][]int{{{0, 1}, {2, 3}}, {{1}}, {{1}}}, 14},
		// These are none.
		{"2*2:1,2,5,10", nil, 0},
		{"2*2:1,2,5,10", [][][]int{}, 0},
		{"2*2:1,2,5,10", [][][]int{nil}, 0},
		{"2*2:1,2,5,10", [][][]int{{{0, 1}, {2, 3}}, nil}, 0},
		{"2*2:1,2,5,10", [][][]int{nil, {{0, 1}, {2, 3}}}, 0},
		{"2*2:1,2,5,10", [][][]int{{{2, 3}, {0, 1}}}, 0},
		{"2*2:1,2,5,10", [][][]int{{{0, 1}}, {{2, 3}}, {{0}}}, 0},
		{"2*2:1,2,5,10", [][][]int{{{0, 1}, {2, 3}}, {{1}}}, 0},
		{"2*2:1,2,5,10", [][][]int{{{0, 1}, {2, 3}}, {{0, 1}, {2, 3}}}, 0},
		{"2*2:1,2,5,10", [][][]int{{{0, 1}, {2, 3}}, {{4}}, {{4}}}, 0},
		{"1*2:1,2,5,10", [][][]int{{{0, 1}, {2, 3}}}, 0},
		{"2*1:1,2,5,10", [][][]int{{{0, 1}, {2, 3}}}, 0},
		{"2*2:1,2,5,10,20", [][][]int{{{0, 1}, {2, 3}}}, 0},
		{"2*2:1,2,5", [][][]int{{{0, 1}, {2, 3}}}, 0},
		// The torch that comes back in a round can be taken in the next one only.
		{"2*2:1,2,5,10", [][][]int{{{0, 1}}, {{0}, {2}}, {{0, 3}, {2}}}, 0},
		{"1*2:1,2,5,10", [][][]int{{{0, 1}}, {{0}, {2, 3}}}, 0},
	} {
		n := night(t, k.night)
		if is, ok := impl.IsNightPlan(n, k.plan); is != (k.time > 0) || !ok {
			t.Errorf("IsNightPlan(%v, %v) = %v, %v", n, k.plan, is, ok)
		}
		if time, ok := impl.NightTime(n, k.plan); time != k.time || ok != (k.time > 0) {
			t.Errorf("NightTime(%v, %v) = %v, %v", n, k.plan, time, ok)
		}
		if k.time > 0 {
			playNight(t, n, k.plan)
		}
	}
	for _, n := range badNights() {
		for _, list := range [][][][]int{nil, {{{0}}}, {{{0}, {1, 2}}}} {
			if is, ok := impl.IsNightPlan(n, list); is || ok {
				t.Errorf("IsNightPlan(%v, %v) = %v, %v", n, list, is, ok)
			}
			if time, ok := impl.NightTime(n, list); time != 0 || ok {
				t.Errorf("NightTime(%v, %v) = %v, %v", n, list, time, ok)
			}
		}
	}
}

func TestRoundsAfter(t *testing.T) {
	n := night(t, "2*2:1,2,5,10")
	for _, k := range []struct {
		camp   string
		rounds [][][]int
		there  string
	}{
		{"....0", nil, "....0"}, {"....2", nil, "....2"}, {"xx..1", [][][]int{}, "xx..1"},
		{"....0", [][][]int{{{0, 1}, {2, 3}}}, "xxxx2"},
		{"....0", [][][]int{{{0, 1}, {2, 3}}, {{0}}}, ".xxx1"},
		{"....0", [][][]int{{{0, 1}}, {{0}, {2, 3}}}, ".xxx1"},
		{"....0", [][][]int{{{0, 1}}, {{0}, {2, 3}}, {{0}, {1, 2}}}, "x..x1"},
		{"....0", [][][]int{{{0}, {1}}, {{0, 1}}}, "....1"},
		{"x.x.1", [][][]int{{{0}, {1, 3}}, {{0}, {2}}, {{1}, {2}}}, "x.xx1"},
		// One of them is none: the first one, one between, the last one.
		{"....2", [][][]int{{{0}}}, ""},
		{"....0", [][][]int{{{0, 1, 2}}, {{0}}}, ""},
		{"....0", [][][]int{{{0}}, {{1}}, {{2}}, {{0}}}, ""},
		{"....0", [][][]int{{{0, 1}}, {{0}}, nil, {{0}}}, ""},
		{"....0", [][][]int{{{0, 1}, {2, 3}}, {{0}}, {{1, 2, 3}}}, ""},
		{"....0", [][][]int{{{0}}, {{0}}, {{4}}}, ""},
	} {
		there, ok := impl.RoundsAfter(n, campOf(k.camp), k.rounds)
		if ok != (k.there != "") || ok && campText(there) != k.there || !ok && !isZeroCamp(there) {
			t.Errorf("RoundsAfter(%s, %v) = %v, %v, want %s", k.camp, k.rounds, there, ok, k.there)
		}
	}
}

// toll tells how many rounds somebody is in who is as slow as the first person or slower, as the second one or slower, and so on:
// all of them, and then fewer. If people rise in their times, that of the rounds is the sum of what each number is multiplied with,
// the first time, which is 1 at least, or by how much a time is greater than that before.
type toll [impl.MaxNight]int

func (a toll) isAtMost(b toll) bool {
	for i := range a {
		if a[i] > b[i] {
			return false
		}
	}
	return true
}

// plus is the toll with one more round.
func (a toll) plus(round [][]int) toll {
	for i := range slices.Max(slices.Concat(round...)) + 1 {
		a[i]++
	}
	return a
}

// leastTolls are the tolls of rounds to each camp, without those that are at least as great in all parts as another one to the same camp.
func (m nightMap) leastTolls() map[string][]toll {
	tolls := map[string][]toll{}
	type mark struct {
		at   string
		paid toll
	}
	next := []mark{{m.first(), toll{}}}
	for len(next) > 0 {
		k := next[0]
		next = next[1:]
		if slices.ContainsFunc(tolls[k.at], func(a toll) bool { return a.isAtMost(k.paid) }) {
			continue
		}
		tolls[k.at] = append(slices.DeleteFunc(tolls[k.at], k.paid.isAtMost), k.paid)
		for _, step := range m.treks[k.at] {
			next = append(next, mark{step.there, k.paid.plus(step.round)})
		}
	}
	return tolls
}

// No plan with the least time has more than 9 rounds, whatever the times are, so that MaxRounds never makes a least time greater:
// a plan whose toll is at least as great in all parts as that of a plan with fewer rounds needs more time.
func TestBestPlansAreShort(t *testing.T) {
	known, most := knownTreks{}, 0
	for people := 1; people <= impl.MaxNight; people++ {
		for _, n := range nightsWith([]int{1, 2, 3, 4, 5, 6}[:people:people]) {
			for at, tolls := range known.mapOf(n).leastTolls() {
				for _, paid := range tolls {
					if isOver(campOf(at)) {
						most = max(most, paid[0])
					}
				}
			}
		}
	}
	if most != 9 {
		t.Errorf("some plan with the least time may have %d rounds", most)
	}
}
