package tests

import (
	"regexp"
	"slices"
	"strconv"
	"strings"
	"testing"

	"loop.example/g01272/impl"
)

// nightText writes a NightText without the package's help.
func nightText(n impl.Night) string {
	var times []string
	for _, time := range n.Times {
		times = append(times, strconv.Itoa(time))
	}
	return strconv.Itoa(n.Torches) + "*" + strconv.Itoa(n.Seats) + ":" + strings.Join(times, ",")
}

// nightPattern is the shape of NightTexts.
var nightPattern = regexp.MustCompile(`^[12]\*[123]:([1-9][0-9]{0,2}|1000)(,([1-9][0-9]{0,2}|1000)){0,5}$`)

// checkParseNight checks ParseNight of a text, and returns whether it is a NightText.
func checkParseNight(t *testing.T, text string) bool {
	t.Helper()
	n, ok := impl.ParseNight(text)
	if ok != nightPattern.MatchString(text) {
		t.Fatalf("ParseNight(%q) = %v, %v", text, n, ok)
	}
	if !ok && !isZeroNight(n) {
		t.Fatalf("ParseNight(%q) fails with %v", text, n)
	}
	if ok && (!impl.IsNight(n) || nightText(n) != text) {
		t.Fatalf("ParseNight(%q) = %v", text, n)
	}
	return ok
}

func TestNightTexts(t *testing.T) {
	for _, k := range []struct {
		text string
		n    impl.Night
	}{
		{"2*2:1,2,5,10", impl.Night{Times: []int{1, 2, 5, 10}, Seats: 2, Torches: 2}},
		{"2*1:3,4", impl.Night{Times: []int{3, 4}, Seats: 1, Torches: 2}},
		{"1*2:3,4", impl.Night{Times: []int{3, 4}, Seats: 2, Torches: 1}},
		{"1*1:7", impl.Night{Times: []int{7}, Seats: 1, Torches: 1}},
		{"1*3:1000,1,10,100,999,1000", impl.Night{Times: []int{1000, 1, 10, 100, 999, 1000}, Seats: 3, Torches: 1}},
	} {
		checkText(t, k.n, k.text, impl.NightText, impl.ParseNight, sameNight)
	}
	for _, n := range slices.Concat(smallNights(), otherNights(3)) {
		checkText(t, n, nightText(n), impl.NightText, impl.ParseNight, sameNight)
	}
	for _, n := range badNights() {
		if text, ok := impl.NightText(n); ok || text != "" {
			t.Errorf("NightText(%v) = %q, %v", n, text, ok)
		}
	}
}

func TestTextsOfNoNight(t *testing.T) {
	for _, text := range []string{
		// Too few parts, and too many.
		"", "*", ":", "*:", ":*", "1", "1*", "*1", "1*1", "1*1:", "*1:1", "1*:1", "1:1", "1:1*1", "1*1,1", "1,1*1:1", "1*1:,", "1*1:1,", "1*1:,1", "1*1:1,,1",
		"1**1:1", "1*1*1", "1*1*1:1", "1*1:1*1", "1*1:1:1", "1*1::1", "*1*1:1", "1*1:1*", "1*1:1:", "1*1,1:1", "1;1:1", "1*1;1", "1*1:1;1", "1*1:1.1", "1=1:1", "1/1:1",
		// Signs, leading zeros, spaces and other letters.
		"+1*1:1", "-1*1:1", "1*+1:1", "1*-1:1", "1*1:+1", "1*1:-1", "1*1:1,+1", "1*1:1,-1", "-0*1:1", "1*1:-0", "01*1:1", "1*01:1", "1*1:01", "1*1:1,01", "001*1:1", "1*1:00",
		" 1*1:1", "1 *1:1", "1* 1:1", "1*1 :1", "1*1: 1", "1*1:1 ", "1*1:1, 1", "1*1:1 ,1", "\t1*1:1", "1*1:1\n", "\n1*1:1", "1*1:1\r", "1*1:1\x00", "\x00", "\xff*1:1", "1*\xff:1", "1*1:\xff", "１*1:1", "1*1:１", "1×1:1",
		"a*1:1", "1*a:1", "1*1:a", "1*1:1a", "1x1:1", "1*1:0x1", "1*1:1e0", "1*1:1.0", "1*1:1_0", "1.0*1:1", "0x1*1:1", "1*1:1r",
		// Numbers that are too small and too great.
		"0*1:1", "1*0:1", "1*1:0", "1*1:1,0", "3*1:1", "1*4:1", "10*1:1", "1*10:1", "1*1:1001", "1*1:1,1001", "1*1:10000",
		"9223372036854775807*1:1", "9223372036854775808*1:1", "18446744073709551617*1:1", "1*9223372036854775807:1", "1*18446744073709551617:1", "1*1:9223372036854775807",
		"1*1:9223372036854775808", "1*1:18446744073709551617", "-9223372036854775808*1:1", "1*1:-9223372036854775808", "-18446744073709551615*1:1",
		// Too many people.
		"1*1:1,1,1,1,1,1,1", "2*2:1,1,1,1,1,1,1,1", "2*2:1,1,1,1,1,1,1,1,1", "2*2:1,1,1,1,1,1,", "1*1:" + strings.Repeat("1,", 5000) + "1",
		strings.Repeat("0", 5000) + "1*1:1", "1*1:" + strings.Repeat("0", 5000) + "1", "1*1:" + strings.Repeat("1", 5000), strings.Repeat("*", 5000), strings.Repeat("1*", 5000) + "1:1", strings.Repeat(":", 5000), strings.Repeat(",", 5000),
	} {
		if checkParseNight(t, text) {
			t.Errorf("%q is the text of a night", text)
		}
	}
}

func TestParseNightOfAllShortTexts(t *testing.T) {
	parsed := 0
	for _, text := range shortTexts([]string{"0", "2", "3", "*", ":", ",", "-"}, 7) {
		if checkParseNight(t, text) {
			parsed++
		}
	}
	// Behind 2* and two numbers of seats come 2, 6 or 18 numbers of one, two or three digits, or two numbers of one digit.
	if want := 2 * (2 + 6 + 18 + 4); parsed != want {
		t.Errorf("%d texts are parsed, not %d", parsed, want)
	}
}

// Texts next to those of nights: a byte more, another one or one less.
func TestTextsNextToNightTexts(t *testing.T) {
	for _, text := range []string{"1*1:7", "2*1:3,4", "2*2:1,2,5,10", "1*3:1000,999", "2*3:1,22,333,1000,5,66", "1*2:100,100,100,100,100,100"} {
		if !checkParseNight(t, text) {
			t.Errorf("%q is no text of a night", text)
		}
		for _, near := range textsNextTo(text) {
			checkParseNight(t, near)
		}
	}
}

// All numbers around the limits, and all numbers of people.
func TestLimitsOfNightTexts(t *testing.T) {
	for k := range 1100 {
		number := strconv.Itoa(k)
		if is := checkParseNight(t, number+"*1:1"); is != (k == 1 || k == 2) {
			t.Error("torches", k, is)
		}
		if is := checkParseNight(t, "1*"+number+":1"); is != (k >= 1 && k <= 3) {
			t.Error("seats", k, is)
		}
		for _, text := range []string{"2*3:" + number, "1*2:5," + number + ",6"} {
			if is := checkParseNight(t, text); is != (k >= 1 && k <= 1000) {
				t.Error(text, is)
			}
		}
	}
	for people := 1; people < 20; people++ {
		for _, word := range []string{"1", "1000"} {
			text := "2*2:" + strings.TrimSuffix(strings.Repeat(word+",", people), ",")
			if is := checkParseNight(t, text); is != (people <= 6) {
				t.Error(text, is)
			}
		}
	}
}
