package num_test

import (
	"math"
	"math/big"
	"regexp"
	"slices"
	"strings"
	"testing"

	"snicket/api"
	"snicket/num"
)

const farthest = 1 << 60

// someNumbers is small numbers, and those about the powers of 2 and of 10, up to the ends of int.
func someNumbers() []int {
	var l []int
	for n := -1100; n <= 1100; n++ {
		l = append(l, n)
	}
	about := func(n int) { l = append(l, n-1, n, n+1, -n-1, -n, -n+1) }
	for i := range 63 {
		about(1 << i)
	}
	for n, i := 1, 0; i < 19; i++ {
		about(n)
		n *= 10
	}
	return append(l, math.MaxInt, math.MaxInt-1, math.MinInt, math.MinInt+1)
}

// mayBeRead tells whether a number is -2^60 to 2^60.
func mayBeRead(n int) bool { return n >= -farthest && n <= farthest }

// badTexts is texts that are no number's digits.
func badTexts() []string {
	long := strings.Repeat("9", 40)
	return []string{
		"", "-", "--", "+", "-0", "+0", "+1", "00", "01", "-00", "-01", "--1", "-+1", "+-1", "- 1",
		" ", " 1", "1 ", "1 2", "\t1", "1\n", "1\r", "\n", "1-", "1-2", "1+2", "1,2", "1.", "1.0", ".1", "1e3",
		"0x1", "0b1", "0o7", "1_000", "x", "a", "1a", "a1", "1a1", "A", "inf", "nan", "\x00", "1\x00", "\x001",
		"/", ":", "1/", "1:", "/1", ":1", "1\xff", "\xff", "\xb1", "\u0661", "1\u0662", "\u22121", "\uff11",
		long + "x", "x" + long, long + " ", "0" + long, "-0" + long, "--" + long, long[:20] + "-" + long,
		"01152921504606846976", "-01152921504606846976", "+1152921504606846976", "1152921504606846977.",
		"000000000000000000000", "-000000000000000000000",
	}
}

// farTexts is digits of numbers beyond -2^60 to 2^60.
func farTexts() []string {
	return []string{
		"1152921504606846977", "-1152921504606846977", "1152921504606846980", "-1152921504606846980",
		"1152921504606847000", "1152921504606850000", "1160000000000000000", "2000000000000000000",
		"-2000000000000000000", "9000000000000000000", "9223372036854775807", "9223372036854775808",
		"-9223372036854775808", "-9223372036854775809", "9999999999999999999", "-9999999999999999999",
		"10000000000000000000", "11529215046068469760", "-11529215046068469760",
		"18446744073709551615", "18446744073709551616", "18446744073709551617", "18446744073709551721",
		"-18446744073709551616", "-18446744073709551721", "36893488147419103232",
		"340282366920938463463374607431768211456", "340282366920938463463374607431768211461",
		"1" + strings.Repeat("0", 19), "1" + strings.Repeat("0", 64), "1" + strings.Repeat("0", 5000),
		"-1" + strings.Repeat("0", 5000), strings.Repeat("9", 5000),
	}
}

func wantParse(t *testing.T, s string, n int, err api.Errno) {
	t.Helper()
	if m, e := num.Parse(s); m != n || e != err {
		t.Errorf("Parse(%.60q): %d, %d; want %d, %d", s, m, e, n, err)
	}
}

func wantBetween(t *testing.T, s string, lo, hi, n int, err api.Errno) {
	t.Helper()
	if m, e := num.Between(s, lo, hi); m != n || e != err {
		t.Errorf("Between(%.60q, %d, %d): %d, %d; want %d, %d", s, lo, hi, m, e, n, err)
	}
}

func wantList(t *testing.T, s string, sep byte, l []int, err api.Errno) {
	t.Helper()
	m, e := num.List(s, sep)
	if !slices.Equal(m, l) || e != err {
		t.Errorf("List(%.60q, %q): %d, %d; want %d, %d", s, sep, m, e, l, err)
	}
}

// Nu1: Text.

func TestTextIsTheDigits(t *testing.T) {
	for n, s := range map[int]string{
		0: "0", 1: "1", -1: "-1", 9: "9", 10: "10", -10: "-10", -105: "-105", 100200: "100200",
		farthest: "1152921504606846976", -farthest: "-1152921504606846976",
		farthest + 1: "1152921504606846977", -farthest - 1: "-1152921504606846977",
		math.MaxInt: "9223372036854775807", math.MinInt: "-9223372036854775808",
	} {
		if num.Text(n) != s {
			t.Errorf("Text(%d): %q", n, num.Text(n))
		}
	}
}

func TestTextOfAnyInt(t *testing.T) {
	for _, n := range someNumbers() {
		if want := big.NewInt(int64(n)).String(); num.Text(n) != want {
			t.Errorf("Text(%d): %q", n, num.Text(n))
		}
	}
}

// Nu1: Parse.

func TestParseReadsNumbers(t *testing.T) {
	for s, n := range map[string]int{
		"0": 0, "1": 1, "-1": -1, "7": 7, "9": 9, "10": 10, "-10": -10, "-105": -105, "1234567890": 1234567890,
		"-9876543210": -9876543210, "1000000000000000000": 1e18, "-1000000000000000000": -1e18,
	} {
		wantParse(t, s, n, api.OK)
	}
}

func TestParseAtItsBounds(t *testing.T) {
	wantParse(t, "1152921504606846975", farthest-1, api.OK)
	wantParse(t, "1152921504606846976", farthest, api.OK)
	wantParse(t, "1152921504606846977", 0, api.ErrRange)
	wantParse(t, "-1152921504606846975", -farthest+1, api.OK)
	wantParse(t, "-1152921504606846976", -farthest, api.OK)
	wantParse(t, "-1152921504606846977", 0, api.ErrRange)
}

func TestParseOfWhatIsNoNumber(t *testing.T) {
	for _, s := range badTexts() {
		wantParse(t, s, 0, api.ErrText)
	}
}

func TestParseOfEachByte(t *testing.T) {
	for b := range 256 {
		c := string([]byte{byte(b)})
		if b >= '0' && b <= '9' {
			wantParse(t, c, b-'0', api.OK)
			wantParse(t, "3"+c, 30+b-'0', api.OK)
			continue
		}
		wantParse(t, c, 0, api.ErrText)
		wantParse(t, "3"+c, 0, api.ErrText)
		wantParse(t, "3"+c+"3", 0, api.ErrText)
		if b != '-' {
			wantParse(t, c+"3", 0, api.ErrText)
		}
	}
}

func TestParseOfWhatIsTooFar(t *testing.T) {
	for _, s := range farTexts() {
		wantParse(t, s, 0, api.ErrRange)
	}
}

// A text that is both no number's digits and too long: ErrText is named first.
func TestParseNamesTextFirst(t *testing.T) {
	for _, s := range farTexts() {
		for _, bad := range []string{s + "x", s + " ", s + "-", " " + s, "0" + s, "+" + s, "--" + s} {
			wantParse(t, bad, 0, api.ErrText)
		}
	}
}

// Nu1: Between.

func TestBetweenAtItsBounds(t *testing.T) {
	for _, lo := range []int{-12, -1, 0, 1, 7} {
		for _, hi := range []int{-5, 0, 1, 7, 20} {
			for n := -25; n <= 25; n++ {
				if n >= lo && n <= hi {
					wantBetween(t, num.Text(n), lo, hi, n, api.OK)
				} else {
					wantBetween(t, num.Text(n), lo, hi, 0, api.ErrRange)
				}
			}
		}
	}
}

func TestBetweenReadsNoFartherThanParse(t *testing.T) {
	lo, hi := math.MinInt, math.MaxInt
	wantBetween(t, "1152921504606846976", lo, hi, farthest, api.OK)
	wantBetween(t, "-1152921504606846976", lo, hi, -farthest, api.OK)
	wantBetween(t, "1152921504606846976", farthest, farthest, farthest, api.OK)
	wantBetween(t, "-1152921504606846976", -farthest, -farthest, -farthest, api.OK)
	wantBetween(t, "1152921504606846976", 0, farthest-1, 0, api.ErrRange)
	wantBetween(t, "-1152921504606846976", -farthest+1, 0, 0, api.ErrRange)
	wantBetween(t, "1152921504606846977", farthest+1, farthest+1, 0, api.ErrRange)
	for _, s := range farTexts() {
		wantBetween(t, s, lo, hi, 0, api.ErrRange)
	}
}

func TestBetweenWithoutAnyNumberBetween(t *testing.T) {
	for _, s := range []string{"0", "1", "-1", "5", "1152921504606846976"} {
		wantBetween(t, s, 1, 0, 0, api.ErrRange)
		wantBetween(t, s, math.MaxInt, math.MinInt, 0, api.ErrRange)
	}
}

func TestBetweenNamesTextFirst(t *testing.T) {
	for _, s := range badTexts() {
		wantBetween(t, s, -1, 1, 0, api.ErrText)
		wantBetween(t, s, 5, 9, 0, api.ErrText)
		wantBetween(t, s, 1, 0, 0, api.ErrText)
		wantBetween(t, s, math.MinInt, math.MaxInt, 0, api.ErrText)
	}
}

// Nu1: Digits.

func TestDigitsIsHowMany(t *testing.T) {
	for n, d := range map[int]int{
		0: 1, 9: 1, -9: 1, 10: 2, -10: 2, 99: 2, -99: 2, 100: 3, -105: 3, farthest: 19, -farthest: 19,
		math.MaxInt: 19, math.MinInt: 19,
	} {
		if num.Digits(n) != d {
			t.Errorf("Digits(%d): %d", n, num.Digits(n))
		}
	}
}

func TestDigitsOfAnyInt(t *testing.T) {
	for _, n := range someNumbers() {
		s := strings.TrimPrefix(big.NewInt(int64(n)).String(), "-")
		if num.Digits(n) != len(s) {
			t.Errorf("Digits(%d): %d", n, num.Digits(n))
		}
	}
}

// Nu2.

func TestListReadsNumbersInOrder(t *testing.T) {
	wantList(t, "1,2", ',', []int{1, 2}, api.OK)
	wantList(t, "0", ',', []int{0}, api.OK)
	wantList(t, "-7", ',', []int{-7}, api.OK)
	wantList(t, "3,-1,0,3,20", ',', []int{3, -1, 0, 3, 20}, api.OK)
	wantList(t, "1152921504606846976,-1152921504606846976", ',', []int{farthest, -farthest}, api.OK)
}

func TestListOfTheEmptyText(t *testing.T) {
	for b := range 256 {
		wantList(t, "", byte(b), nil, api.OK)
	}
}

func TestListOfManyNumbers(t *testing.T) {
	var want []int
	var texts []string
	for _, n := range someNumbers() {
		if mayBeRead(n) {
			want = append(want, n)
			texts = append(texts, num.Text(n))
		}
	}
	wantList(t, strings.Join(texts, ";"), ';', want, api.OK)
}

// Whatever byte parts them: one that numbers have as well parts them all the same.
func TestListPartedByAnyByte(t *testing.T) {
	for b := range 256 {
		sep := string([]byte{byte(b)})
		switch {
		case b == '1':
			wantList(t, "216", '1', []int{2, 6}, api.OK)
		default:
			wantList(t, "1"+sep+"1", byte(b), []int{1, 1}, api.OK)
			wantList(t, "1"+sep+"1"+sep+"11", byte(b), []int{1, 1, 11}, api.OK)
			wantList(t, "1"+sep+sep+"1", byte(b), nil, api.ErrText)
		}
	}
	wantList(t, "1-2", '-', []int{1, 2}, api.OK)
	wantList(t, "-1", '-', nil, api.ErrText)
	wantList(t, "10", '0', nil, api.ErrText)
	wantList(t, "1\u00ff2", 0xff, nil, api.ErrText)
}

func TestListWithAnEmptyPart(t *testing.T) {
	for _, s := range []string{",", ",,", ",1", "1,", "1,,2", "1,2,", ",1,2"} {
		wantList(t, s, ',', nil, api.ErrText)
	}
}

func TestListWithAWrongPart(t *testing.T) {
	for _, bad := range badTexts() {
		if bad == "" || strings.Contains(bad, ",") {
			continue
		}
		for _, s := range []string{bad, bad + ",2,3", "1," + bad + ",3", "1,2," + bad} {
			wantList(t, s, ',', nil, api.ErrText)
		}
	}
	for _, far := range farTexts() {
		for _, s := range []string{far, far + ",2,3", "1," + far + ",3", "1,2," + far} {
			wantList(t, s, ',', nil, api.ErrRange)
		}
	}
}

func TestListPartedByAnotherByte(t *testing.T) {
	wantList(t, "1,2", ';', nil, api.ErrText)
	wantList(t, "1, 2", ',', nil, api.ErrText)
	wantList(t, "1,2\n", ',', nil, api.ErrText)
	wantList(t, "1;2,3", ',', nil, api.ErrText)
}

func TestListNamesTheFirstError(t *testing.T) {
	far := "1152921504606846977"
	wantList(t, far+",x", ',', nil, api.ErrRange)
	wantList(t, "x,"+far, ',', nil, api.ErrText)
	wantList(t, "1,"+far+",2,-0", ',', nil, api.ErrRange)
	wantList(t, "1,-0,2,"+far, ',', nil, api.ErrText)
	wantList(t, far+",", ',', nil, api.ErrRange)
	wantList(t, ","+far, ',', nil, api.ErrText)
}

// R4, and that lists are new memory: a list that is written to turns no other one.
func TestListIsNewMemory(t *testing.T) {
	a, _ := num.List("1,2,3", ',')
	b, _ := num.List("1,2,3", ',')
	clear(a)
	if !slices.Equal(b, []int{1, 2, 3}) {
		t.Errorf("List: %d", b)
	}
	wantList(t, "1,2,3", ',', []int{1, 2, 3}, api.OK)
}

// Nu3.

func TestWhatIsToldIsRead(t *testing.T) {
	for _, n := range someNumbers() {
		if mayBeRead(n) {
			wantParse(t, num.Text(n), n, api.OK)
			wantBetween(t, num.Text(n), n, n, n, api.OK)
		} else {
			wantParse(t, num.Text(n), 0, api.ErrRange)
		}
	}
}

// allTexts tells each text of these bytes that is no longer than that.
func allTexts(bytes string, most int, tell func(string)) {
	var longer func(s string)
	longer = func(s string) {
		tell(s)
		if len(s) == most {
			return
		}
		for i := range len(bytes) {
			longer(s + bytes[i:i+1])
		}
	}
	longer("")
}

func TestNoOtherTextIsTheSameNumbers(t *testing.T) {
	digits := regexp.MustCompile(`^(0|-?[1-9][0-9]*)\z`)
	from := map[int]string{}
	allTexts("-+ 0129/:_\xff", 5, func(s string) {
		n, err := num.Parse(s)
		if !digits.MatchString(s) {
			if err != api.ErrText || n != 0 {
				t.Errorf("Parse(%q): %d, %d", s, n, err)
			}
			return
		}
		if err != api.OK || num.Text(n) != s {
			t.Errorf("Parse(%q): %d, %d", s, n, err)
		}
		if other, ok := from[n]; ok {
			t.Errorf("%q and %q are both %d", s, other, n)
		}
		from[n] = s
	})
}

// P1: every call ends, none panics, and beside an error there is nothing.
func TestCallsOfAnyTextEnd(t *testing.T) {
	allTexts("-,0x\xff\u0661", 5, func(s string) {
		if n, err := num.Between(s, 3, -3); n != 0 || err == api.OK {
			t.Errorf("Between(%q): %d, %d", s, n, err)
		}
		for _, sep := range []byte{',', '-', '0', 0xff, 0} {
			l, err := num.List(s, sep)
			if err != api.OK && l != nil {
				t.Errorf("List(%q, %q): %d, %d", s, sep, l, err)
			}
			if err == api.OK && s != "" && len(l) != strings.Count(s, string([]byte{sep}))+1 {
				t.Errorf("List(%q, %q): %d", s, sep, l)
			}
		}
	})
}
