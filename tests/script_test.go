package tests

import (
	"slices"
	"strings"
	"testing"

	"loop.example/g01272/impl"
)

// scriptOf is the script of some lines, each ended by a newline.
func scriptOf(lines []string) string {
	text := ""
	for _, line := range lines {
		text += line + "\n"
	}
	return text
}

// checkScript checks a script of some lines by DeskLine, line by line, also what its first lines alone lead to, and returns the replies.
func checkScript(t *testing.T, lines []string) []string {
	t.Helper()
	d := impl.FirstDesk()
	var want []string
	var failed []int
	for n := range len(lines) + 1 {
		script := scriptOf(lines[:n])
		replies, ok := impl.RunScript(script)
		if !ok || !slices.Equal(replies, want) {
			t.Fatalf("RunScript(%q) = %q, %v, not %q", script, replies, ok, want)
		}
		if behind, ok := impl.DeskAfter(script); !ok || !sameDesk(behind, d) || !impl.IsDesk(behind) {
			t.Fatalf("DeskAfter(%q) = %s, %v, not %s", script, deskText(behind), ok, deskText(d))
		}
		if numbers, ok := impl.FailedLines(script); !ok || !slices.Equal(numbers, failed) {
			t.Fatalf("FailedLines(%q) = %v, %v, not %v", script, numbers, ok, failed)
		}
		if n == len(lines) {
			break
		}
		behind, reply, ok := impl.DeskLine(d, lines[n])
		if !ok {
			t.Fatalf("DeskLine(%s, %q) fails", deskText(d), lines[n])
		}
		d, want = behind, append(want, reply)
		if reply == "no" || reply == "what" {
			failed = append(failed, n+1)
		}
	}
	return want
}

// checkTalk checks a script whose replies are written out, and the desk behind it. Those of lines that fail are `no` and `what`.
func checkTalk(t *testing.T, desk string, talks ...talk) {
	t.Helper()
	var lines, want []string
	var failed []int
	for n, k := range talks {
		lines, want = append(lines, k.line), append(want, k.reply)
		if k.reply == "no" || k.reply == "what" {
			failed = append(failed, n+1)
		}
	}
	if replies := checkScript(t, lines); !slices.Equal(replies, want) {
		t.Errorf("the replies to %q are %q, not %q", lines, replies, want)
	}
	if behind, _ := impl.DeskAfter(scriptOf(lines)); deskText(behind) != desk {
		t.Errorf("behind %q is %s, not %s", lines, deskText(behind), desk)
	}
	if numbers, _ := impl.FailedLines(scriptOf(lines)); !slices.Equal(numbers, failed) {
		t.Errorf("of %q fail %v, not %v", lines, numbers, failed)
	}
}

func say(line string, reply string) talk { return talk{line: line, reply: reply} }

// Promise 10: the document's example.
func TestExampleOfScripts(t *testing.T) {
	checkTalk(t, "1:1,2,5,10 ....< 3/1/01.12 100=50r,50r,100r",
		say("least", "17"), say("best", "01,0,23,1,01"), say("cross 0,1", "xx..>"), say("left", "15"), say("cost 3", "9"), say("ferry", "1,-,0,1,2,-,1"), say("watch", "1"), say("boat", "01,0,2,1,01"),
		say("carry", "400"), say("seats 3", "3:1,2,5,10"), say("least", "13"), say("seats 1", "1:1,2,5,10"), say("least", "no"), say("cross 4", "no"), say("party 2:0", "what"), say("fly", "what"),
	)
}

// Promise 10: what lines leave on the desk is what the next ones find there.
func TestTalks(t *testing.T) {
	rest := " 3/1/01.12 100=50r,50r,100r"
	// A plan, step by step, and a trip back.
	checkTalk(t, "2:1,2,5,10 .xxx<"+rest,
		say("cross 0,1", "xx..>"), say("gone", "2"), say("left", "15"), say("cross 0", ".x..<"), say("left", "14"), say("cross 1", "no"), say("now", ".x..<"), say("cross 2,3", ".xxx>"), say("cross 1", "..xx<"), say("left", "2"),
		say("cross 0,1", "xxxx>"), say("left", "0"), say("gone", "17"), say("now", "xxxx>"), say("cross 0", ".xxx<"), say("left", "1"), say("gone", "18"), say("least", "17"),
	)
	// The party that is turned begins again, but not if it stays.
	checkTalk(t, "3:4,10 .x>"+rest,
		say("last", "xxxx>"), say("drop 4", "no"), say("now", "xxxx>"), say("drop 0", "2:2,5,10"), say("now", "...<"), say("last", "xxx>"), say("sort", "2:2,5,10"), say("now", "...<"), say("last", "xxx>"), say("slow 101", "no"), say("now", "xxx>"),
		say("slow 2", "2:4,10,20"), say("now", "...<"), say("cross 2", "..x>"), say("seats 0", "no"), say("now", "..x>"), say("seats 2", "2:4,10,20"), say("now", "...<"), say("last", "xxx>"), say("party 2:9,9,9,9,9,9,9,9,9", "what"), say("party 3:20,4,10", "3:20,4,10"),
		say("now", "...<"), say("sort", "3:4,10,20"), say("drop 2", "3:4,10"), say("show", "3:4,10"), say("least", "10"), say("cross 1", ".x>"), say("drop 2", "no"), say("now", ".x>"),
	)
	// The keep and the crew stay what they are, whatever happens to the party, and the other way round.
	checkTalk(t, "2:1,2,5,10 ...x> 2/0/01 90=40r,50r",
		say("cross 3", "...x>"), say("keep 4/2/01.02.13", "4/2/01.02.13"), say("now", "...x>"), say("watch", "01"), say("crew 90=40,50", "90=40,50"), say("row", "no"), say("teach 1", "90=40,50r"), say("row", "1"), say("boat", "01"), say("most", "90"), say("carry", "90"),
		say("keep 2/0/10", "what"), say("keep 2/0/01", "2/0/01"), say("rides", "no"), say("need", "1"), say("watch", "0"), say("teach 2", "no"), say("teach 0", "90=40r,50r"), say("crew 90=0", "what"), say("row", "1"), say("now", "...x>"), say("show", "2:1,2,5,10"),
	)
	// The first line of a script finds the FirstDesk, whatever scripts were before.
	checkTalk(t, "2:1,2,5,10 ....<"+rest, say("show", "2:1,2,5,10"), say("now", "....<"), say("rides", "7"), say("row", "5"))
}

// The script of no lines has no replies, and that of an empty line one.
func TestShortestScripts(t *testing.T) {
	first := "2:1,2,5,10 ....< 3/1/01.12 100=50r,50r,100r"
	checkTalk(t, first)
	checkTalk(t, first, say("", "what"))
	checkTalk(t, first, say("", "what"), say("", "what"))
	checkTalk(t, first, say("", "what"), say("least", "17"), say("", "what"))
	checkTalk(t, first, say(" ", "what"), say("least ", "what"), say(" least", "what"), say("least  ", "what"), say("cost  3", "what"), say("cost 3 ", "what"), say("cost 3", "9"))
	checkTalk(t, first, say("\x00", "what"), say("\xff", "what"), say("least\x00", "what"), say("least\r", "what"), say("\r", "what"), say("party \xff", "what"))
}

// checkNoScript checks that a text is no script.
func checkNoScript(t *testing.T, text string) {
	t.Helper()
	if replies, ok := impl.RunScript(text); ok || len(replies) != 0 {
		t.Errorf("RunScript(%.40q) = %q, %v", text, replies, ok)
	}
	if d, ok := impl.DeskAfter(text); ok || !isZeroDesk(d) {
		t.Errorf("DeskAfter(%.40q) = %s, %v", text, deskText(d), ok)
	}
	if numbers, ok := impl.FailedLines(text); ok || len(numbers) != 0 {
		t.Errorf("FailedLines(%.40q) = %v, %v", text, numbers, ok)
	}
}

// Each line is ended by a newline, the last one as well.
func TestTextsOfNoScript(t *testing.T) {
	for _, text := range []string{
		"least", " ", "x", "\x00", "\xff", "\r", "least\r", "\nleast", "least\nbest", "least\nbest\ncross 0,1", "least\n ", "\n\n ", "least\n\r", "least\n\x00", "least\n\xff", "\n\nx",
		strings.Repeat("least\n", impl.MaxLines-1) + "least", strings.Repeat("least\n", impl.MaxLines) + "least", strings.Repeat("x", impl.MaxScript), strings.Repeat("x", impl.MaxScript-2) + "\nx",
	} {
		checkNoScript(t, text)
	}
}

func TestNumbersOfScriptLines(t *testing.T) {
	for _, line := range []string{"", "least", "fly", "cross 0", "sort", "slow 2"} {
		for _, count := range []int{1, 2, 3, 10, impl.MaxLines - 1, impl.MaxLines} {
			if replies := checkScript(t, slices.Repeat([]string{line}, count)); len(replies) != count {
				t.Errorf("%d lines %q have %d replies", count, line, len(replies))
			}
		}
		for _, count := range []int{impl.MaxLines + 1, impl.MaxLines + 2, 2 * impl.MaxLines, 400} {
			checkNoScript(t, strings.Repeat(line+"\n", count))
		}
	}
	checkNoScript(t, strings.Repeat("\n", impl.MaxScript))
	checkNoScript(t, strings.Repeat("\n", impl.MaxScript+1))
}

func TestBytesOfScripts(t *testing.T) {
	// One line is at most MaxScript - 1 bytes long, as its newline counts as well.
	for _, bytes := range []int{impl.MaxScript - 3, impl.MaxScript - 2, impl.MaxScript - 1} {
		line := "cross " + strings.Repeat("0", bytes-6)
		if replies := checkScript(t, []string{line}); replies[0] != "what" {
			t.Error(replies)
		}
		list := "cross " + strings.Repeat("10,", (bytes-7)/3) + "1"
		if replies := checkScript(t, []string{list}); replies[0] != "no" {
			t.Error(len(list), replies)
		}
	}
	for _, bytes := range []int{impl.MaxScript, impl.MaxScript + 1, 100000} {
		checkNoScript(t, strings.Repeat("x", bytes)+"\n")
	}
	// MaxLines lines of 60 bytes each, with the newlines, are MaxScript bytes.
	lines := slices.Repeat([]string{strings.Repeat("x", impl.MaxScript/impl.MaxLines-1)}, impl.MaxLines)
	lines[0] = "seats 3"
	lines[1] += strings.Repeat("x", len(lines[1])-len(lines[0]))
	last := impl.MaxLines - 1
	if text := scriptOf(lines); len(text) != impl.MaxScript {
		t.Fatal(len(text))
	}
	if replies := checkScript(t, lines); replies[0] != "3:1,2,5,10" || replies[last] != "what" {
		t.Error(replies)
	}
	lines[last] += "x"
	checkNoScript(t, scriptOf(lines))
	lines[last] = lines[last][:len(lines[last])-2]
	checkScript(t, lines)
	// Also where the bytes too many are those of a line that would be executed.
	long := strings.Repeat("x", impl.MaxScript-len("\nleast\nleft\n"))
	checkScript(t, []string{long, "now", "least"})
	if replies := checkScript(t, []string{long, "least", "left"}); !slices.Equal(replies, []string{"what", "17", "17"}) {
		t.Error(replies)
	}
	for _, end := range []string{"least\nleast\n", "least\ncost 0\n", "least\nleft\n\n", "slow 10\nleast\n"} {
		checkNoScript(t, long+"\n"+end)
	}
}

// linesAtRandom are lines that follow no plain rule: many of them are refused.
func linesAtRandom(d *dice, count int) []string {
	words := []string{"party", "seats", "sort", "drop", "slow", "cross", "first", "last", "keep", "crew", "teach", "show", "now", "least", "trips", "many", "best", "left", "gone", "cost", "rides", "ferry", "need", "watch", "row", "boat", "most", "carry", "fly", ""}
	texts := map[string][]string{
		"party": {"2:1,2,5,10", "1:7", "3:5,4,3,2", "2:9,1,4", "1:3,4", "2:0", "3:1,1,1,1,1", "2:1000,1"},
		"keep":  {"3/1/01.12", "0/0/", "4/2/01.02.13", "2/0/01", "3/1/01.02.12", "3/1/12.01"},
		"crew":  {"100=50r,50r,100r", "0=1", "100=50,50", "60=10r,20,30,40r", "1=0"},
		"cross": {"0", "1", "2", "0,1", "0,2", "1,2", "0,1,2", "2,3", "1,3", "1,0", "4", "0,", "-"},
		"seats": {"0", "1", "2", "2", "3", "3", "4", "02"}, "drop": {"0", "1", "3", "9", "-1"}, "slow": {"0", "1", "2", "3", "300"}, "teach": {"0", "1", "2", "7"}, "cost": {"0", "1", "2", "3", "1000000"},
	}
	var lines []string
	for range count {
		word := words[d.below(len(words))]
		if d.below(3) == 0 {
			// Trips are what scripts need most.
			word = "cross"
		}
		if list := texts[word]; list != nil && d.below(20) != 0 {
			word += " " + list[d.below(len(list))]
		} else if d.below(30) == 0 {
			word += " "
		}
		lines = append(lines, word)
	}
	return lines
}

// Promise 10: scripts do what their lines do, one after the other.
func TestScriptsAtRandom(t *testing.T) {
	d := dice(10)
	states := map[string]bool{}
	for n := range 120 {
		lines := linesAtRandom(&d, n%(impl.MaxLines+1))
		replies := checkScript(t, lines)
		for i, line := range lines {
			if strings.HasPrefix(line, "cross") {
				states[replies[i]] = true
			}
		}
		// The last desk, told by the table alone.
		at := atFirst()
		for i, line := range lines {
			behind, reply := byTable(at, line)
			if reply != replies[i] {
				t.Fatalf("%q: the reply %d is %q, not %q", lines, i, replies[i], reply)
			}
			at = behind
		}
		if behind, ok := impl.DeskAfter(scriptOf(lines)); !ok || !sameDesk(behind, at) {
			t.Fatalf("behind %q is %s, not %s", lines, deskText(behind), deskText(at))
		}
	}
	if len(states) < 20 {
		t.Error("only these states:", states)
	}
}

// Promise 10: the plans that are told can be carried out line by line, and all are over behind them.
func TestPlansOfScripts(t *testing.T) {
	for _, text := range []string{"2:1,2,5,10", "2:1,10,10,10,10", "3:9,8,7,6,5", "2:4,4", "1:7", "3:1,2,3,4,5,6,7,8", "2:5,4,3,2,1"} {
		begin := []string{"party " + text, "least", "best"}
		replies, ok := impl.RunScript(scriptOf(begin))
		if !ok {
			t.Fatal(text)
		}
		lines := begin
		for _, trip := range strings.Split(replies[2], ",") {
			lines = append(lines, "cross "+strings.Join(strings.Split(trip, ""), ","))
		}
		replies = checkScript(t, append(lines, "now", "left", "gone", "least"))
		end := replies[len(lines):]
		people := len(party(t, text).Times)
		if want := []string{strings.Repeat("x", people) + ">", "0", replies[1], replies[1]}; !slices.Equal(end, want) {
			t.Errorf("%s: %q, not %q", text, end, want)
		}
	}
}

// The texts next to a script are scripts if they end like one.
func TestTextsNextToScripts(t *testing.T) {
	for _, lines := range [][]string{{}, {"now"}, {"cross 0", "", "now"}, {"sort", "drop 0"}} {
		for _, near := range textsNextTo(scriptOf(lines)) {
			if near == "" || strings.HasSuffix(near, "\n") {
				parts := strings.Split(near, "\n")
				checkScript(t, parts[:len(parts)-1])
			} else {
				checkNoScript(t, near)
			}
		}
	}
}
