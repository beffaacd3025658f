package tests

import (
	"reflect"
	"slices"
	"strings"
	"testing"

	"loop.example/g01272/impl"
)

// callDesks calls all functions of chapter 10 with the same arguments.
func callDesks(d impl.Desk, line string, script string) []result {
	var all []result
	add := func(name string, ok bool, values ...any) { all = append(all, got(name, ok, values...)) }
	add("FirstDesk", true, impl.FirstDesk())
	add("IsDesk", true, impl.IsDesk(d))
	behind, reply, ok := impl.DeskLine(d, line)
	add("DeskLine", ok, behind, reply)
	replies, ok := impl.RunScript(script)
	add("RunScript", ok, replies)
	after, ok := impl.DeskAfter(script)
	add("DeskAfter", ok, after)
	failed, ok := impl.FailedLines(script)
	add("FailedLines", ok, failed)
	return all
}

// rowLines are lines of all rows of the table, most of which succeed on the FirstDesk, and some that fail.
var rowLines = []string{
	"party 2:1,20,3", "seats 3", "sort", "drop 2", "slow 10", "cross 0,2", "first", "last", "keep 3/2/01", "crew 9=4r,5", "teach 1", "show", "now", "least", "trips", "many", "best", "left", "gone", "cost 0",
	"rides", "ferry", "need", "watch", "row", "boat", "most", "carry", "seats 4", "drop 8", "slow 1001", "cross 9", "teach 7", "cost 8", "party 2:0", "keep 3/1/10", "crew 1=0", "cross 0,", "fly", "", "least ",
}

// No line, whatever it is, is executed on what is no desk.
func TestDesksThatAreNone(t *testing.T) {
	for _, d := range badDesks(t) {
		for _, line := range append(slices.Clone(rowLines), "no\nline", strings.Repeat("x", impl.MaxScript+1)) {
			for _, r := range callDesks(d, line, "least") {
				switch r.name {
				case "IsDesk":
					r.ok = false
				case "FirstDesk":
					continue
				}
				checkFails(t, []any{d, line}, r)
			}
		}
	}
}

// Promise 11: a call that fails returns zero values, whatever the arguments are, and no call panics.
func TestDesksAcceptAllArguments(t *testing.T) {
	texts := append(slices.Clone(rowLines), "\n", "least\n", "least\nbest", "least\nbest\n", "\x00\n", "\xff\n\xff\n", "\r\n", " \n \n", "\n\n\n", "cross "+strings.Repeat(",", 2000), "cross "+strings.Repeat("0,", 1497), "party "+strings.Repeat(":", 2000),
		"keep "+strings.Repeat("/", 2000), "crew "+strings.Repeat("=", 2000), "drop "+strings.Repeat("9", 2000), strings.Repeat(" ", 3000), strings.Repeat("\n", 50), strings.Repeat("\n", 51), strings.Repeat("x", 3000), strings.Repeat("x", 3001), strings.Repeat("\n", 3001),
		strings.Repeat("drop 0\n", 50), strings.Repeat("slow 2\n", 50), strings.Repeat("fly\n", 51), strings.Repeat("x", 1000000), strings.Repeat("\n", 1000000))
	for _, d := range append(badDesks(t), someDesks(t)...) {
		isDesk := impl.IsDesk(d)
		for n, line := range texts {
			for _, r := range callDesks(d, line, texts[(n*7+3)%len(texts)]) {
				isLine := len(line) <= impl.MaxScript && !strings.Contains(line, "\n")
				if r.name == "DeskLine" && r.ok != (isDesk && isLine) {
					t.Errorf("DeskLine(%v, %.40q): %v", d, line, r.ok)
				}
				if !r.ok {
					checkFails(t, []any{d, line}, r)
				}
			}
		}
	}
}

// spareDesk makes arguments with spare capacity of the parts of a desk, and a desk of these.
func spareDesk(d impl.Desk, fill int) (withSpare, impl.Desk) {
	w := makeSpare(d.Party, d.Now, nil)
	w.p.Times = spare(d.Party.Times, fill)
	w.dangers = spareLists(d.Keep.Dangers)
	w.at = spare(d.Crew.Weights, fill)
	w.rows = spare(d.Crew.Rows, fill > 0)
	return w, impl.Desk{
		Party: w.p, Now: w.s,
		Keep: impl.Keep{Things: d.Keep.Things, Dangers: w.dangers, Seats: d.Keep.Seats},
		Crew: impl.Crew{Weights: w.at, Rows: w.rows, Most: d.Crew.Most},
	}
}

// Promise 11: arguments are not modified, neither by a call nor by what is done to its results, and spare capacity is neither read nor written.
func TestDesksModifyNoArguments(t *testing.T) {
	for _, d := range someDesks(t) {
		for _, line := range rowLines {
			script := line + "\nnow\n" + line + "\n"
			plain := callDesks(d, line, script)
			for _, fill := range []int{-77, 1} {
				w, mine := spareDesk(d, fill)
				checkArgumentsStay(t, []any{deskText(d), line}, w, plain, func() []result { return callDesks(mine, line, script) })
			}
		}
	}
}

// partsOf are the slices of a desk, one by one.
func partsOf(d impl.Desk) []any {
	parts := []any{d.Party.Times, d.Now.Over, d.Crew.Weights, d.Crew.Rows}
	for _, danger := range d.Keep.Dangers {
		parts = append(parts, danger)
	}
	return parts
}

// checkPartsApart checks that no two slices of a desk share memory, their spare capacity with them.
func checkPartsApart(t *testing.T, d impl.Desk) {
	t.Helper()
	for i := range partsOf(d) {
		var before []string
		for _, part := range partsOf(d) {
			before = append(before, partText(part))
		}
		scribble(partsOf(d)[i])
		for j, part := range partsOf(d) {
			if j != i && partText(part) != before[j] {
				t.Fatalf("the parts %d and %d share memory: %v", i, j, d)
			}
		}
	}
}

func partText(part any) string {
	switch x := part.(type) {
	case []int:
		return partyText(impl.Party{Times: x})
	case []bool:
		return textOf(impl.State{Over: x})
	}
	return ""
}

// A desk that is returned shares nothing with the desk given, nor with one that another call returns, also where nothing changes.
func TestDesksShareNoMemory(t *testing.T) {
	for _, text := range []string{"2:1,2,5,10 ....< 3/1/01.12 100=50r,50r,100r", "3:4,3,2 x.x> 4/2/01.02.13 60=10r,20,30"} {
		for _, line := range rowLines {
			d := deskOf(t, text)
			one, _, _ := impl.DeskLine(d, line)
			two, _, _ := impl.DeskLine(d, line)
			next, _, _ := impl.DeskLine(one, line)
			want, last := deskText(one), deskText(next)
			if deskText(two) != want {
				t.Fatalf("%s: behind %q is %s, and then %s", text, line, want, deskText(two))
			}
			scribble(d)
			if deskText(one) != want || deskText(two) != want || deskText(next) != last {
				t.Fatalf("%s: the desk behind %q shares memory with the one before", text, line)
			}
			scribble(two)
			if deskText(one) != want || deskText(next) != last {
				t.Fatalf("%s: desks behind %q share memory", text, line)
			}
			scribble(one)
			if deskText(next) != last {
				t.Fatalf("%s: the desk behind %q twice shares memory with the one behind it once", text, line)
			}
			checkPartsApart(t, next)
		}
	}
}

func TestResultsOfScriptsShareNoMemory(t *testing.T) {
	for n := range len(rowLines) - 5 {
		script := scriptOf(rowLines[n : n+5])
		plain := callDesks(impl.FirstDesk(), "now", script)
		for _, r := range callDesks(impl.FirstDesk(), "now", script) {
			for _, v := range r.values {
				if d, ok := v.(impl.Desk); ok {
					checkPartsApart(t, d)
				}
				scribble(v)
			}
		}
		if again := callDesks(impl.FirstDesk(), "now", script); !reflect.DeepEqual(plain, again) {
			t.Fatalf("%q: %v, and then %v", script, plain, again)
		}
	}
}

// No state is kept: neither a desk nor a line of a call before is found in the next one.
func TestDesksAreTheSameEachTime(t *testing.T) {
	for _, d := range someDesks(t) {
		for n, line := range rowLines {
			script := scriptOf(rowLines[max(0, n-5) : n+1])
			once := callDesks(d, line, script)
			for range 2 {
				if again := callDesks(d, line, script); !reflect.DeepEqual(once, again) {
					t.Fatalf("%s, %q: %v, and then %v", deskText(d), line, once, again)
				}
			}
		}
	}
}
