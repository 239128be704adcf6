package words_test

import (
	"fmt"
	"math"
	"math/big"
	"regexp"
	"slices"
	"strings"
	"testing"

	"shunter/api"
	"shunter/words"
)

// span returns the integers from low to high.
func span(low, high int) []int {
	var l []int
	for n := low; n <= high; n++ {
		l = append(l, n)
	}
	return l
}

// P1.6
func TestListExamples(t *testing.T) {
	for s, l := range map[string][]int{
		"-":                    nil,
		"1-3,5,8-9":            {1, 2, 3, 5, 8, 9},
		"0":                    {0},
		"0-1":                  {0, 1},
		"0,2":                  {0, 2},
		"7":                    {7},
		"9-11,99,101":          {9, 10, 11, 99, 101},
		"999999999-1000000000": {999999999, 1000000000},
		"0,1000000000":         {0, 1000000000},
		"0-499":                span(0, 499),
		"999999501-1000000000": span(999999501, 1000000000),
	} {
		if got, e := words.List(l); got != s || e != api.OK {
			t.Errorf("List: %.40q, %d; want %q", got, e, s)
		}
		if got, e := words.ParseList(s); !slices.Equal(got, l) || e != api.OK {
			t.Errorf("ParseList(%q): %d numbers, %d", s, len(got), e)
		}
	}
}

// P1.6: no run is longer than one integer, and as many as there may be.
func TestListOfSingles(t *testing.T) {
	var l []int
	var parts []string
	for n := range 500 {
		l = append(l, 2*n)
		parts = append(parts, fmt.Sprint(2*n))
	}
	s := strings.Join(parts, ",")
	if got, e := words.List(l); got != s || e != api.OK {
		t.Errorf("List: %.40q, %d", got, e)
	}
	if got, e := words.ParseList(s); !slices.Equal(got, l) || e != api.OK {
		t.Errorf("ParseList: %d numbers, %d", len(got), e)
	}
	if got, e := words.List(append(l, 1000)); got != "" || e != api.ErrLong {
		t.Errorf("List of 501: %.40q, %d", got, e)
	}
	if got, e := words.ParseList(s + ",1000"); len(got) > 0 || e != api.ErrLong {
		t.Errorf("ParseList of 501: %d numbers, %d", len(got), e)
	}
}

// expression is the list expression of the bits of a number.
func expression(bits int) (s string, l []int) {
	var parts []string
	for n := 0; bits>>n > 0; n++ {
		if bits>>n&1 == 0 {
			continue
		}
		first := n
		for ; bits>>n&1 == 1; n++ {
			l = append(l, n)
		}
		if first == n-1 {
			parts = append(parts, fmt.Sprint(first))
		} else {
			parts = append(parts, fmt.Sprintf("%d-%d", first, n-1))
		}
	}
	if len(parts) == 0 {
		return "-", nil
	}
	return strings.Join(parts, ","), l
}

// P1.6: all lists of integers below 12.
func TestListAll(t *testing.T) {
	for bits := range 1 << 12 {
		s, l := expression(bits)
		if got, e := words.List(l); got != s || e != api.OK {
			t.Errorf("List(%v): %q, %d; want %q", l, got, e, s)
		}
		if got, e := words.ParseList(s); !slices.Equal(got, l) || e != api.OK {
			t.Errorf("ParseList(%q): %v, %d; want %v", s, got, e, l)
		}
	}
}

// P1.6
func TestListErrors(t *testing.T) {
	for i, x := range []struct {
		l []int
		e api.Errno
	}{
		{[]int{2, 1}, api.ErrForm},
		{[]int{1, 1}, api.ErrForm},
		{[]int{0, 1, 2, 2}, api.ErrForm},
		{[]int{1, 3, 2, 4}, api.ErrForm},
		{[]int{-1}, api.ErrRange},
		{[]int{-1, 0}, api.ErrRange},
		{[]int{1000000000}, api.OK},
		{[]int{1000000001}, api.ErrRange},
		{[]int{2, 1, 1000000001}, api.ErrRange},
		{[]int{2, 1, -1}, api.ErrRange},
		{[]int{math.MinInt}, api.ErrRange},
		{[]int{math.MaxInt}, api.ErrRange},
		{span(1, 500), api.OK},
		{span(1, 501), api.ErrLong},
		{make([]int, 500), api.ErrForm},
		{make([]int, 501), api.ErrLong},
		{span(-1, 498), api.ErrRange},
		{span(-1, 499), api.ErrLong},
		{span(1000000001, 1000000501), api.ErrLong},
	} {
		if s, e := words.List(x.l); e != x.e || e != api.OK && s != "" {
			t.Errorf("%d: List: %q, %d; want %d", i, s, e, x.e)
		}
	}
}

// P1.6
func TestParseListErrors(t *testing.T) {
	nines, huge := strings.Repeat("9", 300), "1"+strings.Repeat("0", 300)
	for s, want := range map[string]api.Errno{
		"1-3,4": api.ErrForm, "3-3": api.ErrForm, "2,1": api.ErrForm, "0-600": api.ErrLong, // the chapter's
		"": api.ErrForm, ",": api.ErrForm, "1,": api.ErrForm, ",1": api.ErrForm, "1,,3": api.ErrForm, "--": api.ErrForm, "-,1": api.ErrForm, "1,-": api.ErrForm,
		"1,1": api.ErrForm, "1,2": api.ErrForm, "1-2,2": api.ErrForm, "1-4,3": api.ErrForm, "1-4,2-6": api.ErrForm, "5,1-2": api.ErrForm, "3-2": api.ErrForm, "9,10": api.ErrForm, "99,100-101": api.ErrForm, "9-10,11": api.ErrForm,
		"01": api.ErrForm, "00": api.ErrForm, "0-01": api.ErrForm, "1-": api.ErrForm, "-1": api.ErrForm, "1--2": api.ErrForm, "1-2-3": api.ErrForm, "-1-2": api.ErrForm, "+1": api.ErrForm, "1, 3": api.ErrForm, " 1": api.ErrForm, "1 ": api.ErrForm, "1\n": api.ErrForm, "a": api.ErrForm, "1.5": api.ErrForm, "1;3": api.ErrForm, "０": api.ErrForm, "0x1": api.ErrForm,
		"10,9": api.ErrForm, "2,10": api.OK, "10-9": api.ErrForm, "9-10": api.OK,
		"1000000000": api.OK, "1000000001": api.ErrRange, "9999999999": api.ErrRange, "0,1000000001": api.ErrRange, "999999999-1000000001": api.ErrRange,
		"0-499": api.OK, "0-500": api.ErrLong, "1-500": api.OK, "1-501": api.ErrLong, "0-249,300-549": api.OK, "0-249,300-550": api.ErrLong, "0-499,501": api.ErrLong,
		"0-1000000000": api.ErrLong, "0-1000000001": api.ErrRange, "0-600,1000000001": api.ErrRange, "0-600,600": api.ErrForm, "1000000001,1": api.ErrForm,
		"9223372036854775807": api.ErrRange, "9223372036854775808": api.ErrRange, "18446744073709551617": api.ErrRange, "4294967297": api.ErrRange,
		"9223372036854775807,9223372036854775808": api.ErrForm, "9223372036854775807-9223372036854775808": api.ErrRange, "9223372036854775807,9223372036854775809": api.ErrRange, "18446744073709551615,18446744073709551616": api.ErrForm, "18446744073709551616,1": api.ErrForm,
		nines: api.ErrRange, huge: api.ErrRange, nines + "," + huge: api.ErrForm, nines + "-" + huge: api.ErrRange, huge + "," + nines: api.ErrForm, huge + "-" + huge: api.ErrForm, "0" + nines: api.ErrForm, "0-" + huge: api.ErrRange, nines + ",": api.ErrForm,
	} {
		if l, e := words.ParseList(s); e != want || e != api.OK && len(l) > 0 {
			t.Errorf("ParseList(%.60q): %d numbers, %d; want %d", s, len(l), e, want)
		}
	}
}

var listForm = regexp.MustCompile(`^(0|[1-9][0-9]*)(-(0|[1-9][0-9]*))?$`)

// parsed says with integers of any size what ParseList has to return.
func parsed(s string) ([]int, api.Errno) {
	if s == "-" {
		return nil, api.OK
	}
	var l []int
	next, greatest, many := big.NewInt(0), big.NewInt(0), false
	for i, part := range strings.Split(s, ",") {
		m := listForm.FindStringSubmatch(part)
		if m == nil {
			return nil, api.ErrForm
		}
		first, _ := new(big.Int).SetString(m[1], 10)
		last := first
		if m[3] != "" {
			if last, _ = new(big.Int).SetString(m[3], 10); last.Cmp(first) <= 0 {
				return nil, api.ErrForm
			}
		}
		if i > 0 && first.Cmp(next) <= 0 {
			return nil, api.ErrForm
		}
		for n := new(big.Int).Set(first); n.Cmp(last) <= 0 && !many; n.Add(n, big.NewInt(1)) {
			l = append(l, int(n.Int64()))
			many = len(l) > 500
		}
		greatest, next = last, new(big.Int).Add(last, big.NewInt(1))
	}
	if greatest.Cmp(big.NewInt(1000000000)) > 0 {
		return nil, api.ErrRange
	}
	if many {
		return nil, api.ErrLong
	}
	return l, api.OK
}

func checkParseList(t *testing.T, s string) {
	want, e := parsed(s)
	if got, f := words.ParseList(s); !slices.Equal(got, want) || f != e {
		t.Errorf("ParseList(%q): %v, %d; want %v, %d", s, got, f, want, e)
	}
}

// P1.6: all short strings over what expressions are made of.
func TestParseListForms(t *testing.T) {
	each("0129-, ", 6, func(s string) { checkParseList(t, s) })
}

// P1.6: two runs around places where integers get longer.
func TestParseListBorders(t *testing.T) {
	for _, base := range []string{"9", "99", "999999999", "1000000000", "4294967295", "9223372036854775806", "18446744073709551614", strings.Repeat("9", 40)} {
		b, _ := new(big.Int).SetString(base, 10)
		for _, sep := range []string{",", "-"} {
			for d := int64(-3); d <= 3; d++ {
				other := new(big.Int).Add(b, big.NewInt(d)).String()
				checkParseList(t, base+sep+other)
				checkParseList(t, "0"+","+base+sep+other)
				checkParseList(t, base+sep+other+",1"+other)
			}
		}
	}
}
