package word_test

import (
	"math"
	"math/big"
	"regexp"
	"strconv"
	"strings"
	"testing"

	"skylight/word"
)

// greatest is the greatest number of a text, and its negative the least.
const greatest = 1 << 31

// TestDigits: P18.1, by cases.
func TestDigits(t *testing.T) {
	for _, c := range []struct {
		n    int
		want string
	}{
		{0, "0"}, {1, "1"}, {9, "9"}, {10, "10"}, {11, "11"}, {99, "99"}, {100, "100"}, {101, "101"}, {1000000, "1000000"},
		{-1, "-1"}, {-9, "-9"}, {-10, "-10"}, {-100, "-100"}, {-120, "-120"},
		{greatest, "2147483648"}, {-greatest, "-2147483648"}, {greatest + 1, "2147483649"}, {-greatest - 1, "-2147483649"},
		{math.MaxInt, "9223372036854775807"}, {math.MaxInt - 1, "9223372036854775806"},
		{math.MinInt, "-9223372036854775808"}, {math.MinInt + 1, "-9223372036854775807"},
	} {
		if got := word.Digits(c.n); got != c.want {
			t.Errorf("the digits of %d: %q, want %q", c.n, got, c.want)
		}
	}
}

// TestBigDigits: P18.1, by cases.
func TestBigDigits(t *testing.T) {
	for _, c := range []struct {
		n    uint64
		want string
	}{
		{0, "0"}, {1, "1"}, {9, "9"}, {10, "10"}, {11, "11"}, {99, "99"}, {100, "100"}, {1000000, "1000000"},
		{1 << 31, "2147483648"}, {1 << 32, "4294967296"},
		{1<<63 - 1, "9223372036854775807"}, {1 << 63, "9223372036854775808"}, {1<<63 + 1, "9223372036854775809"},
		{10000000000000000000, "10000000000000000000"}, {9999999999999999999, "9999999999999999999"},
		{math.MaxUint64, "18446744073709551615"}, {math.MaxUint64 - 1, "18446744073709551614"},
	} {
		if got := word.BigDigits(c.n); got != c.want {
			t.Errorf("the digits of %d: %q, want %q", c.n, got, c.want)
		}
	}
}

// spelt holds the decimal digits of a number, found one by one from the last one on.
func spelt(n uint64) string {
	s := string([]byte{byte('0' + n%10)})
	for n /= 10; n > 0; n /= 10 {
		s = string([]byte{byte('0' + n%10)}) + s
	}
	return s
}

// TestDigitsWide: P18.1, numbers of all sizes, against digits found one by one.
func TestDigitsWide(t *testing.T) {
	m := made(1)
	for range 200000 {
		n := m.random.Uint64() >> m.random.IntN(64)
		if got := word.BigDigits(n); got != spelt(n) {
			t.Fatalf("the digits of %d: %q, want %q", n, got, spelt(n))
		}
		if n > math.MaxInt {
			continue
		}
		if got := word.Digits(int(n)); got != spelt(n) {
			t.Fatalf("the digits of %d: %q, want %q", n, got, spelt(n))
		}
		if got := word.Digits(-int(n)); n > 0 && got != "-"+spelt(n) {
			t.Fatalf("the digits of -%d: %q, want %q", n, got, "-"+spelt(n))
		}
	}
}

// noNumbers holds texts that are the digits of no number, whatever its size.
func noNumbers() []string {
	all := []string{
		"", "-", "--", "+", "-0", "+0", "00", "-00", "000", "01", "-01", "001", "007", "+1", "+-1", "-+1", "--1", "1-", "1+", "0-", "-1-",
		" ", "\t", "\n", " 1", "1 ", "\t1", "1\t", "1\n", "\n1", "1 2", "- 1", "-1 ", "1\x00", "\x001", "1\r",
		"a", "1a", "a1", "x", "0x1", "0x", "0b1", "0o7", "0X1F", "1x2", "1e3", "1E3", "e", "inf", "nan", "NaN", "-inf",
		"1.0", "1.", ".1", ".", "0.0", "1,000", "1_000", "_1", "1_", "1'000", "#1", "1#", "/", ":", "1/", "1:", "/1", ":1",
		"\u0661", "\uff11", "1\uff11", "\uff0d1", "\u22121", "\u00b2", "\u2160", "\U0001d7cf", "\xff", "1\xff", "\xb1", "\u0131",
		strings.Repeat("0", 100), strings.Repeat("0", 100) + "1", "-" + strings.Repeat("0", 5000), strings.Repeat("-", 5000),
		"0" + strings.Repeat("9", 30), strings.Repeat("1", 30) + "a", strings.Repeat("1", 30) + " ",
	}
	for number := range 256 {
		if b := string([]byte{byte(number)}); b < "0" || b > "9" {
			all = append(all, b, b+b, "1"+b, "1"+b+"1", b+"0")
			if b != "-" {
				all = append(all, b+"1", "-"+b, "-1"+b, "-"+b+"1")
			}
		}
	}
	return all
}

// TestNumber: P18.2, by cases.
func TestNumber(t *testing.T) {
	for _, n := range []int{
		0, 1, -1, 2, 9, 10, -10, 100, -120, 65536, greatest, greatest - 1, greatest - 2, -greatest, -greatest + 1, 2147483640, 2147483639, -2147483640, 1999999999,
	} {
		got, ok := word.Number(strconv.Itoa(n))
		if got != n || !ok {
			t.Errorf("the number of %d: %d, %t", n, got, ok)
		}
	}
	none := append(noNumbers(),
		"2147483649", "-2147483649", "2147483650", "-2147483650", "2147483658", "2147483748", "3147483648", "-3147483648", "4294967295", "4294967296", "4294967297", "-4294967296",
		"9223372036854775807", "-9223372036854775808", "9223372036854775808", "-9223372036854775809", "18446744073709551615", "18446744073709551616", "18446744073709551617", "-18446744073709551616",
		"02147483648", "-02147483648", "21474836480", "+2147483648", "10000000000", "99999999999999999999",
		strings.Repeat("9", 40), strings.Repeat("1", 100000), "-"+strings.Repeat("1", 100000), "1"+strings.Repeat("0", 100000), "340282366920938463463374607431768211457",
	)
	for _, s := range none {
		if got, ok := word.Number(s); got != 0 || ok {
			t.Errorf("the number of %.60q: %d, %t", s, got, ok)
		}
	}
}

// TestBig: P18.2, by cases.
func TestBig(t *testing.T) {
	for _, n := range []uint64{
		0, 1, 2, 9, 10, 100, greatest - 1, greatest, greatest + 1, 1 << 32, 1<<63 - 1, 1 << 63, 1<<63 + 1, 9999999999999999999, 10000000000000000000, math.MaxUint64 - 1, math.MaxUint64,
	} {
		got, ok := word.Big(strconv.FormatUint(n, 10))
		if got != n || !ok {
			t.Errorf("the number of %d: %d, %t", n, got, ok)
		}
	}
	none := append(noNumbers(),
		"-1", "-9", "-10", "-2147483648", "-9223372036854775808", "-18446744073709551615",
		"18446744073709551616", "18446744073709551617", "18446744073709551620", "18446744073709551625", "18446744073709551715", "28446744073709551615", "20000000000000000000", "99999999999999999999",
		"018446744073709551615", "+18446744073709551615", "184467440737095516150", "36893488147419103232",
		strings.Repeat("9", 40), strings.Repeat("1", 100000), "1"+strings.Repeat("0", 100000), "340282366920938463463374607431768211457",
	)
	for _, s := range none {
		if got, ok := word.Big(s); got != 0 || ok {
			t.Errorf("the number of %.60q: %d, %t", s, got, ok)
		}
	}
}

// form is the form of digits: without leading zeros, and with a minus sign in front of a negative number.
var form = regexp.MustCompile(`\A(0|-?[1-9][0-9]*)\z`)

// within is the number of digits if it is from low to high; nil if it is not, or if these are no digits.
func within(s string, low, high *big.Int) *big.Int {
	if !form.MatchString(s) {
		return nil
	}
	n, ok := new(big.Int).SetString(s, 10)
	if !ok || n.Cmp(low) < 0 || n.Cmp(high) > 0 {
		return nil
	}
	return n
}

// checkNumber fails if Number or Big tells anything else of a text than its form and exact numbers do; it tells whether both are numbers.
func checkNumber(t *testing.T, s string) (bool, bool) {
	t.Helper()
	n, ok := word.Number(s)
	want := within(s, big.NewInt(-greatest), big.NewInt(greatest))
	if ok != (want != nil) || ok && want.Cmp(big.NewInt(int64(n))) != 0 || !ok && n != 0 {
		t.Fatalf("the number of %.60q: %d, %t, want %v", s, n, ok, want)
	}
	great, is := word.Big(s)
	want = within(s, new(big.Int), new(big.Int).SetUint64(math.MaxUint64))
	if is != (want != nil) || is && want.Cmp(new(big.Int).SetUint64(great)) != 0 || !is && great != 0 {
		t.Fatalf("the number of 64 bits of %.60q: %d, %t, want %v", s, great, is, want)
	}
	return ok, is
}

// TestNumberEvery: P18.2, all texts of up to six of some bytes.
func TestNumberEvery(t *testing.T) {
	const bytes = "0129-+ x"
	numbers, greats := 0, 0
	for length := range 7 {
		text := make([]byte, length)
		for number := range 1 << (3 * length) {
			for i := range text {
				text[i] = bytes[number>>(3*i)&7]
			}
			n, g := checkNumber(t, string(text))
			if n {
				numbers++
			}
			if g {
				greats++
			}
		}
	}
	if want := 1 + 2*3*(1+4+16+64+256+1024) - 3*1024; numbers != want {
		t.Errorf("%d numbers, want %d", numbers, want)
	}
	if want := 1 + 3*(1+4+16+64+256+1024); greats != want {
		t.Errorf("%d numbers of 64 bits, want %d", greats, want)
	}
}

// TestNumberWide: P18.2, digits of all lengths, about the bounds, with signs, zeros and other bytes put in.
func TestNumberWide(t *testing.T) {
	numbers, greats, none := 0, 0, 0
	for number := range uint64(100000) {
		m := made(number)
		n := new(big.Int).SetUint64(m.random.Uint64() >> m.random.IntN(64))
		switch m.random.IntN(4) {
		case 0:
			n.Lsh(n, uint(m.random.IntN(6)))
		case 1:
			n.Lsh(big.NewInt(1), uint([]int{31, 32, 63, 64}[m.random.IntN(4)])).Add(n, big.NewInt(int64(m.random.IntN(7)-3)))
		}
		s := n.String()
		if m.random.IntN(3) == 0 {
			s = "-" + s
		}
		if place := m.random.IntN(len(s) + 1); m.random.IntN(4) == 0 {
			s = s[:place] + m.one("0", "-", "+", " ", "a", "_", "\uff11", "\xff", "\n") + s[place:]
		}
		ok, is := checkNumber(t, s)
		if ok {
			numbers++
		}
		if is {
			greats++
		}
		if !ok && !is {
			none++
		}
	}
	if numbers < 10000 || greats < 10000 || none < 10000 {
		t.Errorf("too few numbers (%d), numbers of 64 bits (%d) or others (%d)", numbers, greats, none)
	}
}

// TestNumberAbout: P18.2, all numbers about each bound.
func TestNumberAbout(t *testing.T) {
	for shift := range 70 {
		for by := -300; by <= 300; by++ {
			n := new(big.Int).Lsh(big.NewInt(1), uint(shift))
			n.Add(n, big.NewInt(int64(by)))
			checkNumber(t, n.String())
			checkNumber(t, n.Neg(n).String())
		}
	}
}
