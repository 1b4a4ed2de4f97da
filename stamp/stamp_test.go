package stamp_test

import (
	"fmt"
	"math"
	"math/big"
	"math/rand"
	"regexp"
	"strings"
	"testing"
	"time"

	"revetment/api"
	"revetment/plain"
	"revetment/stamp"
)

const most = 1 << 40

// times are those at which a second, a day, a calendar's part or validity
// ends, and some others; not all of them are valid.
func times() []api.Time {
	secs := []int{math.MinInt, math.MinInt + 1, math.MaxInt - 1, math.MaxInt, 951782400, -62167219200, -62135596800}
	for _, n := range []int{0, 60, 3600, 86400, 10_000_000_000, 1 << 33, most} {
		secs = append(secs, n-1, n, n+1, -n-1, -n, -n+1)
	}
	r := rand.New(rand.NewSource(1))
	for range 300 {
		secs = append(secs, int(r.Uint64())>>(22+r.Intn(42)))
	}
	nanos := []int{math.MinInt, -1, 0, 1, 10, 499_999_999, 500_000_000, 999_999_990, 999_999_999, 1_000_000_000, math.MaxInt}
	for range 10 {
		nanos = append(nanos, r.Intn(1_000_000_000))
	}
	var l []api.Time
	for _, sec := range secs {
		for _, nano := range nanos {
			l = append(l, api.Time{Sec: sec, Nano: nano})
		}
	}
	return l
}

func valid() []api.Time {
	var l []api.Time
	for _, t := range times() {
		if t.Sec >= -most && t.Sec <= most && t.Nano >= 0 && t.Nano <= 999_999_999 {
			l = append(l, t)
		}
	}
	return l
}

// nanos is a time in nanoseconds.
func nanos(t api.Time) *big.Int {
	n := big.NewInt(int64(t.Sec))
	n.Mul(n, big.NewInt(1_000_000_000))
	return n.Add(n, big.NewInt(int64(t.Nano)))
}

func TestRight(t *testing.T) {
	for _, c := range []struct {
		time api.Time
		want bool
	}{
		{api.Time{}, true},
		{api.Time{Sec: most}, true},
		{api.Time{Sec: most, Nano: 999_999_999}, true},
		{api.Time{Sec: most + 1}, false},
		{api.Time{Sec: -most}, true},
		{api.Time{Sec: -most, Nano: 999_999_999}, true},
		{api.Time{Sec: -most - 1}, false},
		{api.Time{Sec: -most - 1, Nano: 999_999_999}, false},
		{api.Time{Nano: -1}, false},
		{api.Time{Nano: 999_999_999}, true},
		{api.Time{Nano: 1_000_000_000}, false},
		{api.Time{Sec: 1, Nano: -1}, false},
		{api.Time{Sec: -1, Nano: -1}, false},
		{api.Time{Sec: math.MinInt}, false},
		{api.Time{Sec: math.MaxInt}, false},
		{api.Time{Nano: math.MinInt}, false},
		{api.Time{Nano: math.MaxInt}, false},
	} {
		if got := stamp.Right(c.time); got != c.want {
			t.Errorf("Right(%v) = %t", c.time, got)
		}
	}
}

func sameText(t *testing.T, time api.Time, want string, wantErr api.Errno) {
	t.Helper()
	got, err := stamp.Text(time)
	e, place := plain.Place(err)
	if got != want || e != wantErr || place != -1 {
		t.Errorf("Text(%v): got %q, error %d at %d; want %q, error %d at -1", time, got, e, place, want, wantErr)
	}
}

func TestTextExamples(t *testing.T) {
	for _, c := range []struct {
		sec, nano int
		want      string
		err       api.Errno
	}{
		{0, 0, "0", 0},
		{0, 1, "0.000000001", 0},
		{0, 500_000_000, "0.5", 0},
		{0, 50_000_000, "0.05", 0},
		{0, 999_999_999, "0.999999999", 0},
		{1, 0, "1", 0},
		{10, 0, "10", 0},
		{100, 120_300_000, "100.1203", 0},
		{-1, 0, "-1", 0},
		{-1, 500_000_000, "-0.5", 0},
		{-2, 500_000_000, "-1.5", 0},
		{-1, 1, "-0.999999999", 0},
		{-1, 999_999_999, "-0.000000001", 0},
		{-2, 999_999_999, "-1.000000001", 0},
		{-1, 900_000_000, "-0.1", 0},
		{-10, 0, "-10", 0},
		{-11, 990_000_000, "-10.01", 0},
		{most, 0, "1099511627776", 0},
		{most, 999_999_999, "1099511627776.999999999", 0},
		{-most, 0, "-1099511627776", 0},
		{-most, 999_999_999, "-1099511627775.000000001", 0},
		{most + 1, 0, "", api.ErrArg},
		{-most - 1, 0, "", api.ErrArg},
		{-most - 1, 999_999_999, "", api.ErrArg},
		{0, -1, "", api.ErrArg},
		{0, 1_000_000_000, "", api.ErrArg},
		{math.MinInt, math.MinInt, "", api.ErrArg},
		{math.MaxInt, math.MaxInt, "", api.ErrArg},
	} {
		sameText(t, api.Time{Sec: c.sec, Nano: c.nano}, c.want, c.err)
	}
}

func wantText(t api.Time) string {
	s := new(big.Rat).SetFrac(nanos(t), big.NewInt(1_000_000_000)).FloatString(9)
	return strings.TrimSuffix(strings.TrimRight(s, "0"), ".")
}

func TestText(t *testing.T) {
	for _, time := range valid() {
		sameText(t, time, wantText(time), 0)
	}
	for _, time := range times() {
		if !stamp.Right(time) {
			sameText(t, time, "", api.ErrArg)
		}
	}
}

// sameParse checks Parse twice: what it answers hangs on its argument alone.
func sameParse(t *testing.T, s string, want api.Time, wantErr api.Errno) {
	t.Helper()
	for range 2 {
		got, err := stamp.Parse(s)
		e, place := plain.Place(err)
		if got != want || e != wantErr || place != -1 {
			t.Errorf("Parse(%.100q): got %v, error %d at %d; want %v, error %d at -1", s, got, e, place, want, wantErr)
		}
	}
}

func TestParseExamples(t *testing.T) {
	for _, c := range []struct {
		s         string
		sec, nano int
	}{
		{"0", 0, 0},
		{"-0", 0, 0},
		{"-0.0", 0, 0},
		{"-0.00000000000", 0, 0},
		{"00012", 12, 0},
		{"1.5", 1, 500_000_000},
		{"1.50", 1, 500_000_000},
		{"1.05", 1, 50_000_000},
		{"-1.5", -2, 500_000_000},
		{"-0.5", -1, 500_000_000},
		{"-1", -1, 0},
		{"-1.0", -1, 0},
		{"0.000000001", 0, 1},
		{"-0.000000001", -1, 999_999_999},
		{"0.0000000001", 0, 0},
		{"0.0000000019", 0, 1},
		{"0.9999999999", 0, 999_999_999},
		{"-0.0000000001", -1, 999_999_999},
		{"-0.0000000010", -1, 999_999_999},
		{"-0.0000000011", -1, 999_999_998},
		{"-0.9999999990", -1, 1},
		{"-0.9999999991", -1, 0},
		{"-0.9999999999", -1, 0},
		{"-1.9999999999", -2, 0},
		{"-1.0000000001", -2, 999_999_999},
		{"-0.1000000000000000000000000000000000000001", -1, 899_999_999},
		{"-0.1000000000000000000000000000000000000000", -1, 900_000_000},
		{"0." + strings.Repeat("0", 1000) + "1", 0, 0},
		{"-0." + strings.Repeat("0", 1000) + "1", -1, 999_999_999},
		{"0." + strings.Repeat("9", 1000), 0, 999_999_999},
		{strings.Repeat("0", 1000) + "7", 7, 0},
		{"-" + strings.Repeat("0", 1000) + "7.25", -8, 750_000_000},
		{"0000000000000001", 1, 0},
		{"1099511627776", most, 0},
		{"1099511627776.5", most, 500_000_000},
		{"1099511627776.9999999999", most, 999_999_999},
		{"-1099511627776", -most, 0},
		{"-1099511627776.0000000000", -most, 0},
		{"-1099511627775.0000000001", -most, 999_999_999},
		{"-1099511627775.9999999999", -most, 0},
	} {
		sameParse(t, c.s, api.Time{Sec: c.sec, Nano: c.nano}, 0)
	}
}

func TestParseErrors(t *testing.T) {
	for _, c := range []struct {
		s   string
		err api.Errno
	}{
		{"", api.ErrForm},
		{"-", api.ErrForm},
		{".", api.ErrForm},
		{"-.", api.ErrForm},
		{".5", api.ErrForm},
		{"-.5", api.ErrForm},
		{"5.", api.ErrForm},
		{"-5.", api.ErrForm},
		{"1.5.", api.ErrForm},
		{"1..5", api.ErrForm},
		{"1.5.5", api.ErrForm},
		{"--1", api.ErrForm},
		{"1-", api.ErrForm},
		{"1.-5", api.ErrForm},
		{"-1.5-", api.ErrForm},
		{"+1", api.ErrForm},
		{"1e5", api.ErrForm},
		{"1.5e5", api.ErrForm},
		{"0x1", api.ErrForm},
		{"1_0", api.ErrForm},
		{"1,5", api.ErrForm},
		{" 1", api.ErrForm},
		{"1 ", api.ErrForm},
		{"1\n", api.ErrForm},
		{"1\x00", api.ErrForm},
		{"\u0661", api.ErrForm},
		{"1.\u0661", api.ErrForm},
		{"\u22121", api.ErrForm},
		{"1.5\xff", api.ErrForm},
		{"NaN", api.ErrForm},
		{"Inf", api.ErrForm},
		{"1000000000000000.", api.ErrForm},
		{"1000000000000000x", api.ErrForm},
		{"1099511627777.x", api.ErrForm},
		{"1099511627777", api.ErrRange},
		{"1099511627777.0", api.ErrRange},
		{"-1099511627777", api.ErrRange},
		{"-1099511627776.5", api.ErrRange},
		{"-1099511627776.000000001", api.ErrRange},
		{"-1099511627776.0000000001", api.ErrRange},
		{"-1099511627776." + strings.Repeat("0", 1000) + "1", api.ErrRange},
		{"999999999999999", api.ErrRange},
		{"-999999999999999", api.ErrRange},
		{"1000000000000000", api.ErrRange},
		{"-1000000000000000.5", api.ErrRange},
		{"0001000000000000000", api.ErrRange},
		{"18446744073709551616", api.ErrRange},
		{"18446744073709551617.5", api.ErrRange},
		{"-18446744073709551616", api.ErrRange},
		{"9223372036854775808", api.ErrRange},
		{strings.Repeat("9", 1000), api.ErrRange},
	} {
		sameParse(t, c.s, api.Time{}, c.err)
	}
}

var form = regexp.MustCompile(`\A-?[0-9]+(\.[0-9]+)?\z`)

func wantParse(s string) (api.Time, api.Errno) {
	if !form.MatchString(s) {
		return api.Time{}, api.ErrForm
	}
	number, _ := new(big.Rat).SetString(s)
	number.Mul(number, big.NewRat(1_000_000_000, 1))
	// Denominators are positive, so this division rounds down.
	whole := new(big.Int).Div(number.Num(), number.Denom())
	sec, nano := new(big.Int).DivMod(whole, big.NewInt(1_000_000_000), new(big.Int))
	if sec.CmpAbs(big.NewInt(most)) > 0 {
		return api.Time{}, api.ErrRange
	}
	return api.Time{Sec: int(sec.Int64()), Nano: int(nano.Int64())}, 0
}

// TestParseDrawn parses texts of few different bytes, as these meet more often.
func TestParseDrawn(t *testing.T) {
	r := rand.New(rand.NewSource(2))
	for _, letters := range []string{"0123456789", "00009.", "09.-", "0123456789.- e"} {
		for range 5000 {
			b := make([]byte, r.Intn(25))
			for i := range b {
				b[i] = letters[r.Intn(len(letters))]
			}
			for _, s := range []string{string(b), "-" + string(b), "7." + string(b), "-7." + string(b)} {
				want, e := wantParse(s)
				sameParse(t, s, want, e)
			}
		}
	}
}

func TestParseEachByte(t *testing.T) {
	for c := range 256 {
		for _, s := range []string{"", "1", "-1", "1.5", "-1.5"} {
			for i := range len(s) + 1 {
				changed := s[:i] + string([]byte{byte(c)}) + s[i:]
				want, e := wantParse(changed)
				sameParse(t, changed, want, e)
			}
		}
	}
}

func TestTextIsReadBack(t *testing.T) {
	for _, time := range valid() {
		s, err := stamp.Text(time)
		if err != nil {
			t.Errorf("Text(%v): %v", time, err)
		}
		sameParse(t, s, time, 0)
	}
}

func TestCut(t *testing.T) {
	for _, time := range times() {
		if got, want := stamp.Cut(time), (api.Time{Sec: time.Sec}); got != want {
			t.Errorf("Cut(%v) = %v, want %v", time, got, want)
		}
	}
}

func TestBefore(t *testing.T) {
	for _, c := range []struct {
		a, b api.Time
		want bool
	}{
		{api.Time{}, api.Time{}, false},
		{api.Time{Sec: 1}, api.Time{Sec: 2}, true},
		{api.Time{Sec: 2}, api.Time{Sec: 1}, false},
		{api.Time{Sec: 1, Nano: 2}, api.Time{Sec: 1, Nano: 3}, true},
		{api.Time{Sec: 1, Nano: 3}, api.Time{Sec: 1, Nano: 2}, false},
		{api.Time{Sec: 1, Nano: 3}, api.Time{Sec: 1, Nano: 3}, false},
		{api.Time{Sec: 1, Nano: 3}, api.Time{Sec: 2, Nano: 1}, true},
		{api.Time{Sec: -2, Nano: 5}, api.Time{Sec: -1, Nano: 1}, true},
		{api.Time{Sec: -1, Nano: 5}, api.Time{Sec: -1, Nano: 6}, true},
		{api.Time{Sec: 0, Nano: 2_000_000_000}, api.Time{Sec: 1}, true},
		{api.Time{Sec: 1, Nano: -2_000_000_000}, api.Time{}, false},
		{api.Time{Sec: 1, Nano: -2}, api.Time{Sec: 1, Nano: -1}, true},
		{api.Time{Sec: math.MinInt}, api.Time{Sec: math.MaxInt}, true},
		{api.Time{Sec: math.MaxInt}, api.Time{Sec: math.MinInt}, false},
		{api.Time{Nano: math.MinInt}, api.Time{Nano: math.MaxInt}, true},
		{api.Time{Nano: math.MaxInt}, api.Time{Nano: math.MinInt}, false},
	} {
		if got := stamp.Before(c.a, c.b); got != c.want {
			t.Errorf("Before(%v, %v) = %t", c.a, c.b, got)
		}
	}
	l := valid()
	r := rand.New(rand.NewSource(3))
	for range 20000 {
		a, b := l[r.Intn(len(l))], l[r.Intn(len(l))]
		if got, want := stamp.Before(a, b), nanos(a).Cmp(nanos(b)) < 0; got != want {
			t.Errorf("Before(%v, %v) = %t", a, b, got)
		}
	}
}

func TestDateExamples(t *testing.T) {
	for _, c := range []struct {
		sec  int
		want [6]int
	}{
		{0, [6]int{1970, 1, 1, 0, 0, 0}},
		{-1, [6]int{1969, 12, 31, 23, 59, 59}},
		{59, [6]int{1970, 1, 1, 0, 0, 59}},
		{60, [6]int{1970, 1, 1, 0, 1, 0}},
		{3599, [6]int{1970, 1, 1, 0, 59, 59}},
		{3600, [6]int{1970, 1, 1, 1, 0, 0}},
		{86399, [6]int{1970, 1, 1, 23, 59, 59}},
		{86400, [6]int{1970, 1, 2, 0, 0, 0}},
		{-86400, [6]int{1969, 12, 31, 0, 0, 0}},
		{-86401, [6]int{1969, 12, 30, 23, 59, 59}},
		{951782400, [6]int{2000, 2, 29, 0, 0, 0}},
		{951868800, [6]int{2000, 3, 1, 0, 0, 0}},
		{1<<31 - 1, [6]int{2038, 1, 19, 3, 14, 7}},
		{1 << 33, [6]int{2242, 3, 16, 12, 56, 32}},
		{-2203891201, [6]int{1900, 2, 28, 23, 59, 59}},
		{-2203891200, [6]int{1900, 3, 1, 0, 0, 0}},
		{-62135596800, [6]int{1, 1, 1, 0, 0, 0}},
		{-62135596801, [6]int{0, 12, 31, 23, 59, 59}},
		{-62162035200, [6]int{0, 3, 1, 0, 0, 0}},
		{-62162035201, [6]int{0, 2, 29, 23, 59, 59}},
		{-62167219200, [6]int{0, 1, 1, 0, 0, 0}},
		{-62167219201, [6]int{-1, 12, 31, 23, 59, 59}},
		{most, [6]int{36812, 2, 20, 0, 36, 16}},
		{-most, [6]int{-32873, 11, 12, 23, 23, 44}},
	} {
		for _, nano := range []int{0, 1, 999_999_999} {
			time := api.Time{Sec: c.sec, Nano: nano}
			if got := stamp.Date(time); got != c.want {
				t.Errorf("Date(%v) = %v, want %v", time, got, c.want)
			}
		}
	}
}

func wantDate(sec int) [6]int {
	u := time.Unix(int64(sec), 0).UTC()
	return [6]int{u.Year(), int(u.Month()), u.Day(), u.Hour(), u.Minute(), u.Second()}
}

func TestDate(t *testing.T) {
	l := valid()
	r := rand.New(rand.NewSource(4))
	for range 20000 {
		l = append(l, api.Time{Sec: r.Intn(2*most+1) - most, Nano: r.Intn(1_000_000_000)})
	}
	for _, time := range l {
		if got, want := stamp.Date(time), wantDate(time.Sec); got != want {
			t.Errorf("Date(%v) = %v, want %v", time, got, want)
		}
	}
}

func monthLength(year, month int) int {
	switch month {
	case 4, 6, 9, 11:
		return 30
	case 2:
		if year%4 == 0 && (year%100 != 0 || year%400 == 0) {
			return 29
		}
		return 28
	}
	return 31
}

// TestDatesAreConsecutive goes by each day of some cycles of 400 years.
func TestDatesAreConsecutive(t *testing.T) {
	const days = 5 * 146097
	year, month, day := -430, 1, 1
	for n := range days {
		sec := (n - 2400*365 - 582) * 86400
		date := [6]int{year, month, day, 0, 0, 0}
		if got := stamp.Date(api.Time{Sec: sec}); got != date {
			t.Fatalf("Date of second %d = %v, want %v", sec, got, date)
		}
		date[3], date[4], date[5] = 23, 59, 59
		if got := stamp.Date(api.Time{Sec: sec + 86399, Nano: 999_999_999}); got != date {
			t.Fatalf("Date of second %d = %v, want %v", sec+86399, got, date)
		}
		day++
		if day > monthLength(year, month) {
			month, day = month+1, 1
		}
		if month > 12 {
			year, month = year+1, 1
		}
	}
}

// TestDateOfNone: what the document leaves open is zero.
func TestDateOfNone(t *testing.T) {
	for _, time := range times() {
		if stamp.Right(time) {
			continue
		}
		if got := stamp.Date(time); got != [6]int{} {
			t.Errorf("Date(%v) = %v", time, got)
		}
	}
}

func Example() {
	s, err := stamp.Text(api.Time{Sec: -2, Nano: 500_000_000})
	fmt.Println(s, err)
	// Output: -1.5 <nil>
}
