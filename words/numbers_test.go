package words_test

import (
	"fmt"
	"math"
	"math/big"
	"regexp"
	"strings"
	"testing"

	"shunter/api"
	"shunter/words"
)

// P1.1
func TestIntExamples(t *testing.T) {
	huge := strings.Repeat("9", 5000)
	for _, x := range []struct {
		s         string
		low, high int64
		n         int64
		e         api.Errno
	}{
		{"007", 0, 10, 0, api.ErrForm},
		{"-0", -10, 10, 0, api.ErrForm},
		{"12", 0, 10, 0, api.ErrRange},
		{"0", 0, 0, 0, api.OK},
		{"-7", -7, -7, -7, api.OK},
		{"10", 0, 10, 10, api.OK},
		{"11", 0, 10, 0, api.ErrRange},
		{"5", 5, 10, 5, api.OK},
		{"4", 5, 10, 0, api.ErrRange},
		{"-1", 0, 10, 0, api.ErrRange},
		{"5", 6, 4, 0, api.ErrRange},
		{"x", 6, 4, 0, api.ErrForm},
		{"", 0, 10, 0, api.ErrForm},
		{"-", -10, 10, 0, api.ErrForm},
		{"--1", -10, 10, 0, api.ErrForm},
		{"-01", -10, 10, 0, api.ErrForm},
		{"00", 0, 10, 0, api.ErrForm},
		{"+1", 0, 10, 0, api.ErrForm},
		{" 1", 0, 10, 0, api.ErrForm},
		{"1 ", 0, 10, 0, api.ErrForm},
		{"1\n", 0, 10, 0, api.ErrForm},
		{"1.0", 0, 10, 0, api.ErrForm},
		{"1_0", 0, 10, 0, api.ErrForm},
		{"0x1", 0, 10, 0, api.ErrForm},
		{"1-", 0, 10, 0, api.ErrForm},
		{"１", 0, 10, 0, api.ErrForm},
		{"9223372036854775807", math.MinInt64, math.MaxInt64, math.MaxInt64, api.OK},
		{"9223372036854775808", math.MinInt64, math.MaxInt64, 0, api.ErrRange},
		{"-9223372036854775808", math.MinInt64, math.MaxInt64, math.MinInt64, api.OK},
		{"-9223372036854775809", math.MinInt64, math.MaxInt64, 0, api.ErrRange},
		{"18446744073709551616", math.MinInt64, math.MaxInt64, 0, api.ErrRange},
		{huge, math.MinInt64, math.MaxInt64, 0, api.ErrRange},
		{"-" + huge, math.MinInt64, math.MaxInt64, 0, api.ErrRange},
		{"0" + huge, math.MinInt64, math.MaxInt64, 0, api.ErrForm},
		{huge + "x", math.MinInt64, math.MaxInt64, 0, api.ErrForm},
	} {
		if n, e := words.Int(x.s, x.low, x.high); n != x.n || e != x.e {
			t.Errorf("Int(%.30q, %d, %d): %d, %d; want %d, %d", x.s, x.low, x.high, n, e, x.n, x.e)
		}
	}
}

// P1.1: all strings of up to four bytes over what numbers are made of, and what they are not.
func TestIntForms(t *testing.T) {
	form := regexp.MustCompile(`^(0|-?[1-9][0-9]*)$`)
	each("0129-+ a", 4, func(s string) {
		want, e := int64(0), api.ErrForm
		if form.MatchString(s) {
			b, _ := new(big.Int).SetString(s, 10)
			want, e = b.Int64(), api.OK
			if want < -19 || want > 120 {
				want, e = 0, api.ErrRange
			}
		}
		if n, got := words.Int(s, -19, 120); n != want || got != e {
			t.Errorf("Int(%q): %d, %d; want %d, %d", s, n, got, want, e)
		}
	})
}

// P1.1: any byte in any place.
func TestIntBytes(t *testing.T) {
	for i := range 256 {
		c := string([]byte{byte(i)})
		for s, ok := range map[string]bool{
			c:             isDigit(byte(i)),
			"1" + c:       isDigit(byte(i)),
			"1" + c + "1": isDigit(byte(i)),
			c + "1":       isDigit(byte(i)) && i != '0' || i == '-',
		} {
			if _, e := words.Int(s, -1000, 1000); (e == api.OK) != ok || !ok && e != api.ErrForm {
				t.Errorf("Int(%q): %d", s, e)
			}
		}
	}
}

// P1.1
func TestDigits(t *testing.T) {
	for n, want := range map[int64]string{0: "0", 7: "7", -7: "-7", 10: "10", -10: "-10", 1000000000: "1000000000", math.MaxInt64: "9223372036854775807", math.MinInt64: "-9223372036854775808"} {
		if got := words.Digits(n); got != want {
			t.Errorf("Digits(%d): %q", n, got)
		}
	}
	for n := int64(-2000); n <= 2000; n++ {
		if got := words.Digits(n); got != fmt.Sprint(n) {
			t.Errorf("Digits(%d): %q", n, got)
		}
	}
}
