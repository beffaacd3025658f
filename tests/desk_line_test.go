package tests

import (
	"fmt"
	"slices"
	"strconv"
	"strings"
	"testing"

	"loop.example/g01272/impl"
)

// checkLine checks the desk behind a line and the reply by the document's table, and returns both. What is no line has to fail.
func checkLine(t *testing.T, d impl.Desk, line string) (impl.Desk, string) {
	t.Helper()
	before := deskText(d)
	behind, reply, ok := impl.DeskLine(d, line)
	if deskText(d) != before {
		t.Fatalf("%q changes its desk %s to %s", line, before, deskText(d))
	}
	if len(line) > impl.MaxScript || strings.Contains(line, "\n") {
		if ok || reply != "" || !isZeroDesk(behind) {
			t.Fatalf("%s: %q, which is no line, leads to %s, %q, %v", before, line, deskText(behind), reply, ok)
		}
		return behind, reply
	}
	want, answer := byTable(d, line)
	if !ok || reply != answer || !sameDesk(behind, want) {
		t.Fatalf("%s: %q leads to %s, %q, %v, not to %s, %q", before, line, deskText(behind), reply, ok, deskText(want), answer)
	}
	if !impl.IsDesk(behind) || (reply == "no" || reply == "what") && !sameDesk(behind, d) {
		t.Fatalf("%s: behind %q, whose reply is %q, is %s", before, line, reply, deskText(behind))
	}
	return behind, reply
}

// checkReply checks a line whose reply is known, and returns the desk behind it.
func checkReply(t *testing.T, d impl.Desk, line string, want string) impl.Desk {
	t.Helper()
	behind, reply := checkLine(t, d, line)
	if reply != want {
		t.Fatalf("%s: the reply to %q is %q, not %q", deskText(d), line, reply, want)
	}
	return behind
}

// talk is a line, its reply, and the desk behind it, or nothing if it stays as it is.
type talk struct {
	line, reply, desk string
}

// Promise 10: each row of the table, with replies and desks that are written out.
func TestRowsOnFirstDesk(t *testing.T) {
	state := " ....< 3/1/01.12 100=50r,50r,100r"
	three := " ...< 3/1/01.12 100=50r,50r,100r"
	rest := " 3/1/01.12 100=50r,50r,100r"
	for _, k := range []talk{
		{"party 1:7", "1:7", "1:7 .< 3/1/01.12 100=50r,50r,100r"},
		{"party 3:1000,1,1000,1,1,1,1,1", "3:1000,1,1000,1,1,1,1,1", "3:1000,1,1000,1,1,1,1,1 ........< 3/1/01.12 100=50r,50r,100r"},
		{"seats 1", "1:1,2,5,10", "1:1,2,5,10" + state},
		{"seats 2", "2:1,2,5,10", ""},
		{"seats 3", "3:1,2,5,10", "3:1,2,5,10" + state},
		{"sort", "2:1,2,5,10", ""},
		{"drop 0", "2:2,5,10", "2:2,5,10" + three},
		{"drop 1", "2:1,5,10", "2:1,5,10" + three},
		{"drop 3", "2:1,2,5", "2:1,2,5" + three},
		{"slow 1", "2:1,2,5,10", ""},
		{"slow 3", "2:3,6,15,30", "2:3,6,15,30" + state},
		{"slow 100", "2:100,200,500,1000", "2:100,200,500,1000" + state},
		{"cross 0", "x...>", "2:1,2,5,10 x...>" + rest},
		{"cross 3", "...x>", "2:1,2,5,10 ...x>" + rest},
		{"cross 0,3", "x..x>", "2:1,2,5,10 x..x>" + rest},
		{"first", "....<", ""},
		{"last", "xxxx>", "2:1,2,5,10 xxxx>" + rest},
		{"keep 0/0/", "0/0/", "2:1,2,5,10 ....< 0/0/ 100=50r,50r,100r"},
		{"keep 8/2/01.67", "8/2/01.67", "2:1,2,5,10 ....< 8/2/01.67 100=50r,50r,100r"},
		{"crew 0=1", "0=1", "2:1,2,5,10 ....< 3/1/01.12 0=1"},
		{"crew 2000=500r,1,499r", "2000=500r,1,499r", "2:1,2,5,10 ....< 3/1/01.12 2000=500r,1,499r"},
		{"teach 0", "100=50r,50r,100r", ""},
		{"teach 2", "100=50r,50r,100r", ""},
		{"show", "2:1,2,5,10", ""},
		{"now", "....<", ""},
		{"least", "17", ""},
		{"trips", "5", ""},
		{"many", "2", ""},
		{"best", "01,0,23,1,01", ""},
		{"left", "17", ""},
		{"gone", "0", ""},
		{"cost 0", "0", ""},
		{"cost 1", "1", ""},
		{"cost 2", "4", ""},
		{"cost 3", "9", ""},
		{"rides", "7", ""},
		{"ferry", "1,-,0,1,2,-,1", ""},
		{"need", "1", ""},
		{"watch", "1", ""},
		{"row", "5", ""},
		{"boat", "01,0,2,1,01", ""},
		{"most", "100", ""},
		{"carry", "400", ""},
	} {
		behind := checkReply(t, impl.FirstDesk(), k.line, k.reply)
		want := k.desk
		if want == "" {
			want = "2:1,2,5,10" + state
		}
		if deskText(behind) != want {
			t.Errorf("behind %q is %s", k.line, deskText(behind))
		}
	}
}

// Lines on other desks, whose replies are written out: what is the least and the most, and what does not exist.
func TestRowsOnOtherDesks(t *testing.T) {
	small := " 0/0/ 0=1"
	for _, k := range []talk{
		// One person, and one seat.
		{"least", "7", "1:7 .<" + small}, {"trips", "1", "1:7 .<" + small}, {"many", "1", "1:7 .<" + small}, {"best", "0", "1:7 .<" + small},
		{"drop 0", "no", "1:7 .<" + small}, {"cost 0", "no", "1:7 .<" + small}, {"left", "7", "1:7 .<" + small}, {"gone", "0", "1:7 .<" + small},
		{"left", "0", "1:7 x>" + small}, {"gone", "7", "1:7 x>" + small}, {"cross 0", ".<", "1:7 x>" + small}, {"sort", "1:7", "1:7 x>" + small},
		{"slow 142", "1:994", "1:7 .<" + small}, {"slow 143", "no", "1:7 .<" + small},
		{"least", "no", "1:3,4 ..<" + small}, {"trips", "no", "1:3,4 ..<" + small}, {"many", "0", "1:3,4 ..<" + small}, {"best", "no", "1:3,4 ..<" + small},
		{"left", "no", "1:3,4 ..<" + small}, {"gone", "0", "1:3,4 ..<" + small}, {"cost 0", "no", "1:3,4 ..<" + small}, {"cost 1", "no", "1:3,4 ..<" + small},
		{"left", "3", "1:3,4 .x<" + small}, {"gone", "no", "1:3,4 .x<" + small}, {"left", "no", "1:3,4 .x>" + small}, {"gone", "4", "1:3,4 .x>" + small},
		{"left", "0", "1:3,4 xx>" + small}, {"gone", "no", "1:3,4 xx>" + small}, {"drop 0", "1:4", "1:3,4 xx>" + small}, {"cross 0,1", "no", "1:3,4 ..<" + small},
		{"cost 0", "no", "1:3,4,5 ...<" + small}, {"seats 2", "2:3,4", "1:3,4 .x<" + small},
		// With a fast person less than nothing is lost.
		{"cost 0", "-7", "2:1,10,10,10,10 .....<" + small}, {"cost 0", "-7", "2:1,10,10,10,10 xx...>" + small}, {"cost 4", "11", "2:1,10,10,10,10 .....<" + small},
		{"cost 1", "0", "2:4,4 ..<" + small}, {"cost 0", "1001", "2:1000,1000,1000,1000,1000,1,1000,1000 ........<" + small}, {"cost 5", "-3994", "2:1000,1000,1000,1000,1000,1,1000,1000 ........<" + small},
		// Who is where the torch is, and all who are over.
		{"cross 0", "no", "2:1,2,5,10 .x..>" + small}, {"cross 1", "....<", "2:1,2,5,10 .x..>" + small}, {"cross 0,1", "no", "2:1,2,5,10 .x..<" + small}, {"cross 0,2", "xxx.>", "2:1,2,5,10 .x..<" + small},
		{"cross 0", ".xxx<", "2:1,2,5,10 xxxx>" + small}, {"cross 2,3", "xx..<", "2:1,2,5,10 xxxx>" + small}, {"cross 0,1,2", "no", "2:1,2,5,10 xxxx>" + small},
		{"cross 0,1,2", "...x<", "3:1,2,5,10 xxxx>" + small}, {"now", "xxxx>", "2:1,2,5,10 xxxx>" + small}, {"last", "xxxx>", "2:1,2,5,10 xxxx>" + small}, {"first", "....<", "2:1,2,5,10 xxxx>" + small},
		{"left", "0", "2:1,2,5,10 xxxx>" + small}, {"gone", "17", "2:1,2,5,10 xxxx>" + small}, {"left", "15", "2:1,2,5,10 xx..>" + small}, {"gone", "2", "2:1,2,5,10 xx..>" + small},
		{"sort", "3:1,2,5,10", "3:10,2,5,1 x.x.>" + small}, {"show", "3:10,2,5,1", "3:10,2,5,1 x.x.>" + small}, {"best", "01,0,023", "3:1,1,1,1 ....<" + small},
		// The best plans do not have the fewest trips.
		{"least", "8", "3:1,1,4,4,4 .....<" + small}, {"trips", "3", "3:1,1,4,4,4 .....<" + small}, {"best", "01,0,234,1,01", "3:1,1,4,4,4 .....<" + small}, {"many", "2", "3:1,1,4,4,4 .....<" + small},
	} {
		checkReply(t, deskOf(t, k.desk), k.line, k.reply)
	}
	party := "2:1,2,5,10 ....< "
	for _, k := range []talk{
		// No things, no dangers and no seats.
		{"rides", "1", party + "0/0/ 0=1"}, {"ferry", "-", party + "0/0/ 0=1"}, {"need", "0", party + "0/0/ 0=1"}, {"watch", "-", party + "0/0/ 0=1"},
		{"rides", "1", party + "0/8/ 0=1"}, {"ferry", "-", party + "0/8/ 0=1"}, {"need", "0", party + "0/8/ 0=1"}, {"watch", "-", party + "0/8/ 0=1"},
		{"rides", "no", party + "2/0/ 0=1"}, {"ferry", "no", party + "2/0/ 0=1"}, {"need", "1", party + "2/0/ 0=1"}, {"watch", "-", party + "2/0/ 0=1"},
		{"rides", "3", party + "2/1/ 0=1"}, {"ferry", "0,-,1", party + "2/1/ 0=1"}, {"rides", "1", party + "2/2/ 0=1"}, {"ferry", "01", party + "2/2/ 0=1"},
		{"rides", "no", party + "3/0/01.12 0=1"}, {"ferry", "no", party + "3/0/01.12 0=1"}, {"need", "1", party + "3/0/01.12 0=1"}, {"watch", "1", party + "3/0/01.12 0=1"},
		{"rides", "no", party + "3/1/01.02.12 0=1"}, {"need", "2", party + "3/1/01.02.12 0=1"}, {"watch", "01", party + "3/1/01.02.12 0=1"},
		{"rides", "3", party + "3/2/01.02.12 0=1"}, {"ferry", "01,0,02", party + "3/2/01.02.12 0=1"}, {"ferry", "01234567", party + "8/8/ 0=1"}, {"watch", "6", party + "8/8/67 0=1"},
		// Nobody can row, the boat carries too little, and all at once.
		{"row", "no", party + "0/0/ 100=50,50"}, {"boat", "no", party + "0/0/ 100=50,50"}, {"most", "no", party + "0/0/ 100=50,50"}, {"carry", "no", party + "0/0/ 100=50,50"},
		{"teach 0", "100=50r,50", party + "0/0/ 100=50,50"}, {"teach 1", "100=50,50r", party + "0/0/ 100=50,50"}, {"teach 2", "no", party + "0/0/ 100=50,50"},
		{"row", "1", party + "0/0/ 100=50,50r"}, {"boat", "01", party + "0/0/ 100=50,50r"}, {"most", "100", party + "0/0/ 100=50,50r"}, {"carry", "100", party + "0/0/ 100=50,50r"},
		{"row", "no", party + "0/0/ 99=50r,50r"}, {"boat", "no", party + "0/0/ 99=50r,50r"}, {"most", "100", party + "0/0/ 99=50r,50r"}, {"carry", "no", party + "0/0/ 99=50r,50r"},
		{"row", "no", party + "0/0/ 0=1r"}, {"most", "1", party + "0/0/ 0=1r"}, {"row", "1", party + "0/0/ 2000=1r"}, {"boat", "0", party + "0/0/ 2000=1r"}, {"carry", "1", party + "0/0/ 2000=1r"},
	} {
		checkReply(t, deskOf(t, k.desk), k.line, k.reply)
	}
}

// Calls that fail, and parties that there cannot be.
func TestLinesThatAreNo(t *testing.T) {
	for _, line := range []string{
		"seats 0", "seats 4", "seats 8", "seats 999999", "drop 4", "drop 5", "drop 999999", "slow 0", "slow 101", "slow 1000", "slow 999999", "cost 4", "cost 999999", "teach 3", "teach 999999",
		"cross 4", "cross 0,4", "cross 1,0", "cross 3,2", "cross 0,0", "cross 2,2", "cross 0,1,2", "cross 0,1,2,3", "cross 3,2,1,0", "cross 999999", "cross 0,999999", "cross 0,1,2,3,4,5,6,7,8,9,10",
		"cross " + strings.Repeat("0,", 1400) + "0", "cross " + strings.Repeat("999999,", 400) + "999999",
	} {
		checkReply(t, impl.FirstDesk(), line, "no")
	}
}

// Words that are unknown, too many or too few, and those that are no number, no list or no text.
func TestLinesThatAreWhat(t *testing.T) {
	for _, line := range []string{
		// Unknown words, the empty one among them.
		"", " ", "  ", "fly", "no", "what", "-", "0", "17", "2:1,2,5,10", "Least", "LEAST", "leas", "leastt", "least\r", "least\x00", "\x00", "\xff", "least\xff", "\xffleast", "lea\u017ft", "least\t", "\tleast", "least,", "least.", "least;show",
		"time", "help", "row1", "cross0", "drop0", "party2:1", "cross:0", "now,show", "Party 2:1", "PARTY 2:1", "Drop 0", "fly 0", "0 drop", "fly 2:1",
		// Too many and too few words.
		" least", "least ", " least ", "least  ", "least least", "least 0", "least 17", "now ....<", "show 2:1,2,5,10", "sort 1", "sort ", "first 0", "last 0", "best 0", "left 0", "gone 0", "rides 0", "ferry 0", "need 0", "watch 0", "row 0", "boat 0",
		"most 100", "carry 0", "trips 0", "many 0", "party", "seats", "drop", "slow", "cross", "keep", "crew", "teach", "cost", "party 2:1 ", "party  2:1", " party 2:1", "party 2:1 2:1", "party 2: 1", "party 2:1, 2", "seats 2 ", "seats  2", " seats 2", "seats 2 2",
		"drop 0 ", "drop  0", "drop 0 1", "slow 2 2", "slow  2", "cross 0 1", "cross 0, 1", "cross 0 ,1", "cross  0", "cross 0 ", " cross 0", "keep 0/0/ ", "keep  0/0/", "keep 0/0/ 0/0/", "crew 0=1 ", "crew  0=1", "crew 0=1 0=1", "teach 0 ", "teach 0 1", "cost 0 ", "cost  0", "cost 0 0",
		// Lists.
		"cross ,", "cross 0,", "cross ,0", "cross 0,,1", "cross ,,", "cross -", "cross 0,-", "cross 01", "cross 0,01", "cross 00", "cross 0,+1", "cross +0", "cross -0", "cross 0,-1", "cross 0;1", "cross 0.1", "cross 0,x", "cross x", "cross 1000000", "cross 0,1000000", "cross 4,1000000",
		"cross 9223372036854775808", "cross 0,18446744073709551617", "cross 0,1\r", "cross 0,\x00", "cross \xff", "cross 0,1,", "cross 0,1,2,3,4,5,6,7,8,x", "cross 1,0,", "cross " + strings.Repeat("0,", 1400), "cross " + strings.Repeat(",", 2990),
		// Texts.
		"party 2:0", "party 0:1", "party 4:1", "party 2:1001", "party 2:", "party :1", "party 2", "party 2:1,", "party 2:,1", "party 2:01", "party 02:1", "party 2:+1", "party 2:-1", "party 2:1,1,1,1,1,1,1,1,1", "party 3/1/01", "party 100=50r", "party x", "party 2:1\r", "party 2:\x00", "party \xff",
		"party 2:9223372036854775808", "keep 9/0/", "keep 0/9/", "keep 3/1", "keep 3/1/10", "keep 3/1/01.01", "keep 3/1/12.01", "keep 3/1/03", "keep 3/1/01.", "keep 3/1/.01", "keep 03/1/", "keep +3/1/", "keep 2:1", "keep x", "keep 3/1/01\r", "keep \x00", "keep \xff", "keep 99999999999999999999/1/",
		"crew =", "crew 1=", "crew =1", "crew 1=0", "crew 1=501", "crew 2001=1", "crew 1=1,", "crew 1=,1", "crew 1=01", "crew 1=r", "crew 1=1rr", "crew 1=1R", "crew 1=1,1,1,1,1,1,1,1", "crew 2:1", "crew x", "crew 1=1\r", "crew \x00", "crew \xff", "crew 99999999999999999999=1",
		"party -", "keep -", "crew -", "party what", "party ....<", "cross ....<", "cross x...>",
	} {
		checkReply(t, impl.FirstDesk(), line, "what")
	}
}

// Numbers are told in decimal, up to 999999, whichever word they stand behind: others are none, while these may be too great for a call.
func TestNumbersOfLines(t *testing.T) {
	for _, word := range []string{"seats", "drop", "slow", "cross", "teach", "cost"} {
		for _, number := range []string{
			"", "-", "+", "-0", "+0", "-1", "+1", "+2", "--1", "00", "01", "02", "000001", "0000000", " 1", "1 ", "1.0", "1e0", "0x1", "1_0", "1,", "x", "1x", "x1", "one", "\u0661", "\uff11", "1\r", "1\t", "1\x00", "\x00", "\xff", "1\xff",
			"1000000", "1000001", "9999999", "10000000", "0999999", "-999999", "+999999", "999999.", "2147483648", "4294967296", "4294967297", "9223372036854775807", "9223372036854775808", "18446744073709551616", "18446744073709551617", "-9223372036854775808",
			"99999999999999999999", strings.Repeat("9", 1000), strings.Repeat("0", 1000) + "1", "1" + strings.Repeat("0", 2000),
		} {
			checkReply(t, impl.FirstDesk(), word+" "+number, "what")
		}
		for _, number := range []string{"99999", "100000", "999998", "999999"} {
			checkReply(t, impl.FirstDesk(), word+" "+number, "no")
		}
		for n := range 1200 {
			checkLine(t, impl.FirstDesk(), word+" "+strconv.Itoa(n))
		}
	}
}

// askedOfParties are the rows that change nothing, and ask about the party.
var askedOfParties = []string{"show", "now", "least", "trips", "many", "best", "left", "gone"}

// linesOfParty are lines about a party of so many people: all lists of some of them with them.
func linesOfParty(people int) []string {
	lines := append(slices.Clone(askedOfParties), "sort", "first", "last", "seats 0", "seats 1", "seats 2", "seats 3", "seats 4", "slow 0", "slow 1", "slow 2", "slow 111", "slow 112", "cross 1,0", "cross 0,0")
	for k := range people + 2 {
		lines = append(lines, fmt.Sprint("drop ", k), fmt.Sprint("cost ", k))
	}
	for set := 1; set < 1<<people; set++ {
		list := ""
		for k := range people {
			if set>>k&1 == 1 {
				list += fmt.Sprint(",", k)
			}
		}
		lines = append(lines, "cross "+list[1:])
	}
	return lines
}

// Promise 10: each row about a party, for all states of small parties and some of a great one, held against the calls.
func TestRowsOfParties(t *testing.T) {
	others := someDesks(t)
	parties := append(allParties(), party(t, "1:4,3"), party(t, "2:5,5,5,5"), party(t, "2:1,10,10,10,10"), party(t, "3:1,1,4,4,4"), party(t, "3:1000"))
	for n, p := range parties {
		lines := linesOfParty(min(len(p.Times), 5))
		for m, s := range allStates(len(p.Times)) {
			if len(p.Times) > 5 && m%73 != 0 {
				continue
			}
			d := others[(n+m)%len(others)]
			d.Party, d.Now = p, s
			for _, line := range lines {
				checkLine(t, d, line)
			}
		}
	}
}

// A line that turns the Party puts all back: Now is the FirstState behind it, even if the party is the same.
func TestPartiesBeginAtFirst(t *testing.T) {
	lines := append(linesOfParty(4)[8:], "party 2:1,2,5,10", "party 1:1", "party 3:5,5,5,5,5,5,5,5")
	for _, s := range allStates(4) {
		d := impl.FirstDesk()
		d.Now = s
		for _, line := range lines {
			behind, reply := checkLine(t, d, line)
			word, _, _ := strings.Cut(line, " ")
			if !slices.Contains([]string{"party", "seats", "sort", "drop", "slow"}, word) || reply == "no" {
				continue
			}
			first, ok := impl.FirstState(behind.Party)
			if !ok || !sameState(behind.Now, first) || len(behind.Now.Over) != len(behind.Party.Times) || reply != partyText(behind.Party) {
				t.Fatalf("%s: behind %q, whose reply is %q, is %s", deskText(d), line, reply, deskText(behind))
			}
		}
	}
}

// Promise 10: each row about a keep, for all small keeps and some of up to eight things, held against the calls.
func TestRowsOfKeeps(t *testing.T) {
	others := someDesks(t)
	keeps := smallKeeps()
	for n, k := range otherKeeps() {
		k.Seats = n % 5
		keeps = append(keeps, k)
	}
	for n, k := range keeps {
		d := others[n%len(others)]
		if behind := checkReply(t, d, "keep "+keepText(k), keepText(k)); !sameKeep(behind.Keep, k) {
			t.Fatalf("behind keep %s is %s", keepText(k), deskText(behind))
		}
		d.Keep = k
		for _, line := range []string{"rides", "ferry", "need", "watch"} {
			checkLine(t, d, line)
		}
	}
}

// Promise 10: each row about a crew, for many small crews and some of up to seven people, held against the calls.
func TestRowsOfCrews(t *testing.T) {
	others := someDesks(t)
	crews := slices.Concat(crewsOf(1, 3), crewsOf(2, 2), otherCrews(1))
	for n, c := range smallCrews() {
		if n%17 == 0 {
			crews = append(crews, c)
		}
	}
	for n, c := range crews {
		d := others[n%len(others)]
		if behind := checkReply(t, d, "crew "+crewText(c), crewText(c)); !sameCrew(behind.Crew, c) {
			t.Fatalf("behind crew %s is %s", crewText(c), deskText(behind))
		}
		d.Crew = c
		for _, line := range []string{"row", "boat", "most", "carry"} {
			checkLine(t, d, line)
		}
		for k := range len(c.Weights) + 2 {
			behind, reply := checkLine(t, d, fmt.Sprint("teach ", k))
			if k < len(c.Weights) && (!behind.Crew.Rows[k] || reply != crewText(behind.Crew)) || k >= len(c.Weights) && reply != "no" {
				t.Fatalf("%s: behind teach %d, whose reply is %q, is %s", crewText(c), k, reply, deskText(behind))
			}
		}
	}
}

// All words of the table, alone and with each kind of word behind them, on some desks.
func TestWordsOfTheTable(t *testing.T) {
	if len(deskTable) != 28 {
		t.Fatal(len(deskTable), "words")
	}
	behind := []string{"", " ", " 0", " 1", " 2", " 999999", " 1000000", " 0,1", " 1,0", " 0,1,2", " -", " 2:3,1,2", " 3/1/01.12", " 100=50r,50r,100r", " 0 1", " 0 ", "  0", " \x00", " \xff"}
	for _, d := range someDesks(t) {
		for word := range deskTable {
			for _, end := range behind {
				checkLine(t, d, word+end)
				checkLine(t, d, " "+word+end)
				checkLine(t, d, strings.ToUpper(word)+end)
				checkLine(t, d, word[:1]+strings.ToUpper(word[1:])+end)
			}
		}
	}
}

// A byte more, another one or one less: newlines among them, which no line has.
func TestLinesNextToOthers(t *testing.T) {
	d := deskOf(t, "2:3,1,2 x.x> 3/1/01.12 200=50r,50,100r")
	for _, line := range []string{
		"party 2:1,20", "seats 3", "sort", "drop 2", "slow 10", "cross 0,2", "first", "last", "keep 3/2/01", "crew 9=4r,5", "teach 1", "show", "now", "least", "trips", "many", "best", "left", "gone", "cost 0",
		"rides", "ferry", "need", "watch", "row", "boat", "most", "carry",
	} {
		if _, reply := checkLine(t, d, line); reply == "no" || reply == "what" {
			t.Fatalf("the reply to %q is %q", line, reply)
		}
		for _, near := range textsNextTo(line) {
			checkLine(t, d, near)
		}
	}
}

// All texts of up to five parts: words, blanks, numbers, commas and others.
func TestLinesOfParts(t *testing.T) {
	d := deskOf(t, "2:3,1,2 x.x> 3/1/01.12 200=50r,50,100r")
	replies := map[string]int{}
	for _, line := range shortTexts([]string{"cross", "drop", "sort", " ", "0", "2", ",", "-", "\n", "999999"}, 5) {
		_, reply := checkLine(t, d, line)
		replies[reply]++
	}
	for _, reply := range []string{"no", "what", "", "..x<", "x..<", "...<", "2:1,2,3", "2:1,2", "2:3,1"} {
		if replies[reply] == 0 {
			t.Errorf("no reply is %q: %v", reply, replies)
		}
	}
}

// A line has at most MaxScript bytes, and no newline, wherever it stands.
func TestLimitsOfLines(t *testing.T) {
	long := func(begin string, end string, bytes int) string {
		return (begin + strings.Repeat(end, bytes))[:bytes]
	}
	for _, bytes := range []int{impl.MaxScript - 1, impl.MaxScript, impl.MaxScript + 1, 2 * impl.MaxScript, 100000} {
		for _, k := range []struct{ begin, end, reply string }{
			{"x", "x", "what"}, {" ", " ", "what"}, {"least ", " ", "what"}, {"least", "t", "what"}, {"drop ", "0", "what"}, {"drop 9", "9", "what"}, {"cross 0", "0", "what"},
			{"cross ", "1,10,", "list"}, {"cross ", "11,1,", "list"}, {"cross 1", ",1", "list"},
			{"party 2:1", ",1", "what"}, {"keep 3/1/01", ".01", "what"}, {"crew 1=1", ",1", "what"}, {"", "\x00", "what"}, {"", "\xff", "what"},
		} {
			line := long(k.begin, k.end, bytes)
			want := k.reply
			if want == "list" {
				// A list is no trip, and what ends in a comma is no list.
				want = "no"
				if strings.HasSuffix(line, ",") {
					want = "what"
				}
			}
			if bytes > impl.MaxScript {
				want = ""
			}
			if _, reply := checkLine(t, impl.FirstDesk(), line); len(line) != bytes || reply != want {
				t.Errorf("%d bytes %.20q..: %q, not %q", len(line), line, reply, want)
			}
		}
	}
	for _, line := range []string{"\n", "least\n", "\nleast", "least\nleast", "lea\nst", "\n\n", "drop 0\n", "drop\n0", "cross 0\n,1", "party 2:1\n", "least\r\n", strings.Repeat("\n", impl.MaxScript), strings.Repeat("\n", impl.MaxScript+1), strings.Repeat("x", impl.MaxScript-1) + "\n"} {
		if _, reply := checkLine(t, impl.FirstDesk(), line); reply != "" {
			t.Errorf("%q: %q", line, reply)
		}
	}
}
