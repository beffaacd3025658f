package tests

import (
	"math"
	"regexp"
	"slices"
	"strconv"
	"strings"
	"testing"

	"loop.example/g01272/impl"
)

// crewPattern is the shape of CrewTexts, whose numbers may still be too great.
var crewPattern = regexp.MustCompile(`^(0|[1-9][0-9]{0,3})=[1-9][0-9]{0,2}r?(,[1-9][0-9]{0,2}r?){0,6}$`)

// isCrewText tells by the shape of a text, and then by its numbers, whether it is a CrewText.
func isCrewText(text string) bool {
	if !crewPattern.MatchString(text) {
		return false
	}
	most, people, _ := strings.Cut(text, "=")
	for _, word := range strings.Split(people, ",") {
		if n, err := strconv.Atoi(strings.TrimSuffix(word, "r")); err != nil || n > impl.MaxWeight {
			return false
		}
	}
	n, err := strconv.Atoi(most)
	return err == nil && n <= impl.MaxMost
}

// checkParse checks ParseCrew of a text, and returns whether it is a CrewText.
func checkParse(t *testing.T, text string) bool {
	t.Helper()
	c, ok := impl.ParseCrew(text)
	if ok != isCrewText(text) {
		t.Fatalf("ParseCrew(%q) = %v, %v", text, c, ok)
	}
	if !ok && !isZeroCrew(c) {
		t.Fatalf("ParseCrew(%q) fails with %v", text, c)
	}
	if ok && (!impl.IsCrew(c) || crewText(c) != text) {
		t.Fatalf("ParseCrew(%q) = %v", text, c)
	}
	return ok
}

func TestCrewTexts(t *testing.T) {
	seven := impl.Crew{Weights: []int{500, 1, 500, 10, 20, 30, 499}, Rows: []bool{true, false, false, true, true, false, true}, Most: 2000}
	for _, c := range []struct {
		text string
		c    impl.Crew
	}{
		{"0=1", impl.Crew{Weights: []int{1}, Rows: []bool{false}}},
		{"0=1r", impl.Crew{Weights: []int{1}, Rows: []bool{true}}},
		{"100=50r,50r,100r", impl.Crew{Weights: []int{50, 50, 100}, Rows: []bool{true, true, true}, Most: 100}},
		{"100=50,50r,100", impl.Crew{Weights: []int{50, 50, 100}, Rows: []bool{false, true, false}, Most: 100}},
		{"2000=500r,1,500,10r,20r,30,499r", seven},
	} {
		checkText(t, c.c, c.text, impl.CrewText, impl.ParseCrew, sameCrew)
	}
	for _, c := range slices.Concat(smallCrews(), otherCrews(2)) {
		checkText(t, c, crewText(c), impl.CrewText, impl.ParseCrew, sameCrew)
	}
	for _, c := range badCrews() {
		if text, ok := impl.CrewText(c); ok || text != "" {
			t.Errorf("CrewText(%v) = %q, %v", c, text, ok)
		}
	}
}

func TestTextsOfNoCrew(t *testing.T) {
	for _, text := range []string{
		"", "=", "==", "1", "r", "1r", "1=", "=1", "=1r", "=r", "1=r", "1=,", "1=1,", "1=,1", "1=1,,1", "1=1r,", "1=,1r", "1=1r,,1r", "1=r,1", "1=1,r",
		"1=1=1", "1==1", "=1=1", "1=1=", "1=1r=", "1,1=1", "1;1", "1=1;1", "1=1r;1", "1:1", "1=1.1", "1 = 1", "1=1 1",
		"1r=1", "1r=1r", "r=1", "1=r1", "1=1rr", "1=1r1", "1=r1r", "1=1R", "1=1x", "1=1r,1x", "1=1s", "1=1rx", "1=1xr", "1=rr", "x=1", "1=x", "1x=1", "a=b",
		"+1=1", "-1=1", "-0=1", "1=+1", "1=-1", "1=-0", "1=+1r", "1=-1r", "1=1+", "1=1-r", "--1=1",
		"01=1", "00=1", "1=01", "1=01r", "1=0", "1=0r", "1=00", "1=1,0", "1=1,01", "1=1r,0r", "001=1",
		" 1=1", "1 =1", "1= 1", "1=1 ", "1=1 r", "1=1r ", "1=1, 1", "1=1 ,1", "\t1=1", "1=1\n", "1=1r\n", "\n1=1", "1=1\r", "1=1\x00", "\x00", "\xff=1", "1=\xff", "1=1\xff", "１=1", "1=１", "1=1ｒ", "1=é",
		"0x1=1", "1=0x1", "1e0=1", "1=1e0", "1.0=1", "1=1.0", "1_0=1", "1=1_0", "1=1_0r",
		"2001=1", "2001=1r", "9999=1", "20000=1", "1=501", "1=501r", "1=1,501", "1=501r,1r", "1=1000", "1=9999r",
		"1=1,1,1,1,1,1,1,1", "1=1r,1r,1r,1r,1r,1r,1r,1r", "1=1,1,1,1,1,1,1,", "1=1,1,1,1,1,1,1,1,1", "1=1,1,1,1,1,1,1,1,",
		"9223372036854775807=1", "9223372036854775808=1", "18446744073709551616=1", "18446744073709551617=1", "-9223372036854775808=1",
		"1=9223372036854775807", "1=9223372036854775808r", "1=18446744073709551617", "1=-9223372036854775808", "99999999999999999999=1r",
		strings.Repeat("0", 5000) + "1=1", "1=" + strings.Repeat("0", 5000) + "1", "1=" + strings.Repeat("1,", 5000) + "1", "1=1" + strings.Repeat("r", 5000),
		strings.Repeat("=", 5000), strings.Repeat(",", 5000), strings.Repeat("r", 5000), strings.Repeat("1", 5000),
	} {
		if checkParse(t, text) {
			t.Errorf("%q is the text of a crew", text)
		}
	}
}

// Each text that is parsed is the text of what it is parsed to, in all short texts of some bytes.
func TestParseCrewOfAllShortTexts(t *testing.T) {
	parsed := 0
	for _, text := range shortTexts([]string{"0", "2", "5", "=", ",", "r", "-"}, 6) {
		if checkParse(t, text) {
			parsed++
		}
	}
	if parsed == 0 {
		t.Error("no text is parsed")
	}
}

// Texts next to those of crews: a byte more, another one or one less.
func TestTextsNextToCrewTexts(t *testing.T) {
	for _, text := range []string{"0=1", "1=1r", "100=50r,50r,100r", "2000=500,500r", "2=1r,2,3r,4,5r,6,7r", "1999=499,9,99r", "10=10r,20r,30r,40r,50r,60r,70r"} {
		if !checkParse(t, text) {
			t.Errorf("%q is no text of a crew", text)
		}
		for _, near := range textsNextTo(text) {
			checkParse(t, near)
		}
	}
}

// All numbers around the limits, and all numbers of people.
func TestLimitsOfCrewTexts(t *testing.T) {
	for n := range 2100 {
		number := strconv.Itoa(n)
		if is := checkParse(t, number+"=1"); is != (n <= impl.MaxMost) {
			t.Error("most", n, is)
		}
		for _, text := range []string{"1=" + number, "1=" + number + "r", "1=1r," + number + ",2"} {
			if is := checkParse(t, text); is != (n >= 1 && n <= impl.MaxWeight) {
				t.Error(text, is)
			}
		}
	}
	for people := 1; people < 20; people++ {
		for _, word := range []string{"1", "1r", "500"} {
			text := "7=" + strings.TrimSuffix(strings.Repeat(word+",", people), ",")
			if is := checkParse(t, text); is != (people <= impl.MaxCrew) {
				t.Error(text, is)
			}
		}
	}
}

// checkTeach checks that a person, but nobody else, can row in the crew in which that is taught.
func checkTeach(t *testing.T, c impl.Crew, k int) {
	t.Helper()
	before := crewText(c)
	taught, ok := impl.TeachPerson(c, k)
	if crewText(c) != before {
		t.Fatalf("TeachPerson(%s, %d) changes its crew to %v", before, k, c)
	}
	if k < 0 || k >= len(c.Weights) {
		if ok || !isZeroCrew(taught) {
			t.Fatalf("TeachPerson(%v, %d) = %v, %v", c, k, taught, ok)
		}
		return
	}
	want := impl.Crew{Weights: c.Weights, Rows: slices.Clone(c.Rows), Most: c.Most}
	want.Rows[k] = true
	if !ok || !sameCrew(taught, want) || !impl.IsCrew(taught) {
		t.Fatalf("TeachPerson(%v, %d) = %v, %v, want %v", c, k, taught, ok, want)
	}
	// Who can row already is taught nothing.
	if again, ok := impl.TeachPerson(taught, k); !ok || !sameCrew(again, taught) {
		t.Fatalf("TeachPerson(%v, %d) = %v, %v", taught, k, again, ok)
	}
}

func TestTeachPerson(t *testing.T) {
	for _, c := range slices.Concat(smallCrews(), otherCrews(2)) {
		for _, k := range []int{math.MinInt, -2, -1, 0, 1, 2, 3, 4, 5, 6, 7, 8, 1 << 32, math.MaxInt} {
			checkTeach(t, c, k)
		}
	}
	for _, k := range []struct {
		crew   string
		person int
		want   string
	}{
		{"100=50,50,100", 0, "100=50r,50,100"},
		{"100=50,50,100", 1, "100=50,50r,100"},
		{"100=50,50,100", 2, "100=50,50,100r"},
		{"100=50r,50,100r", 1, "100=50r,50r,100r"},
		{"100=50r,50,100r", 2, "100=50r,50,100r"},
		{"0=1", 0, "0=1r"},
		{"0=1r", 0, "0=1r"},
		{"2000=500,1,2,3,4,5,6", 6, "2000=500,1,2,3,4,5,6r"},
		{"100=50,50,100", 3, ""},
		{"100=50,50,100", -1, ""},
		{"0=1", 1, ""},
	} {
		c, ok := impl.TeachPerson(crew(t, k.crew), k.person)
		if ok != (k.want != "") || ok && crewText(c) != k.want || !ok && !isZeroCrew(c) {
			t.Errorf("TeachPerson(%s, %d) = %v, %v", k.crew, k.person, c, ok)
		}
	}
	for _, c := range badCrews() {
		for _, k := range []int{-1, 0, 1, 2, 7} {
			if taught, ok := impl.TeachPerson(c, k); ok || !isZeroCrew(taught) {
				t.Errorf("TeachPerson(%v, %d) = %v, %v", c, k, taught, ok)
			}
		}
	}
}

// One who learns to row can bring a crew over that had no plan, or be needed no more.
func TestPlansOfTaughtCrews(t *testing.T) {
	c := crew(t, "100=50r,50,100r")
	if n, ok := impl.FewestOfCrew(c); n != 0 || ok {
		t.Error("before", n, ok)
	}
	taught, ok := impl.TeachPerson(c, 1)
	if n, fine := impl.FewestOfCrew(taught); n != 5 || !ok || !fine {
		t.Error("behind", n, ok, fine)
	}
	alone := crew(t, "2=1r,1")
	if list, ok := impl.NeededRowers(alone); !ok || !slices.Equal(list, []int{0}) {
		t.Error("one", list, ok)
	}
	both, _ := impl.TeachPerson(alone, 1)
	if list, ok := impl.NeededRowers(both); !ok || len(list) != 0 {
		t.Error("both", list, ok)
	}
}
