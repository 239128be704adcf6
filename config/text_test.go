package config_test

import (
	"regexp"
	"slices"
	"strconv"
	"strings"
	"testing"

	"shunter/api"
	"shunter/config"
)

// P2.5
func TestPrintExamples(t *testing.T) {
	for c, want := range map[api.Config]string{
		a:                                 "cars 7 of 8 nursery 4 registers 1 popular 2",
		{C: 8, N: 8, S: 6, K: 2, Q: 2}:    "cars 8 of 8 nursery 6 registers 2 popular 2",
		{C: 10, N: 11, S: 12, K: 3, Q: 4}: "cars 11 of 10 nursery 12 registers 3 popular 4",
		greatest:                          "cars 24 of 64 nursery 64 registers 8 popular 16",
	} {
		if got, e := config.Print(c); got != want || e != api.OK {
			t.Errorf("Print(%v): %q, %d", c, got, e)
		}
		if got, e := config.Parse(want); got != c || e != api.OK {
			t.Errorf("Parse(%q): %v, %d", want, got, e)
		}
	}
}

// P2.5: texts without the required form.
func TestParseForm(t *testing.T) {
	const text = "cars 7 of 8 nursery 4 registers 1 popular 2"
	for _, s := range []string{
		"",
		" ",
		strings.Repeat(" ", 9),
		strings.Repeat("cars 7 ", 10),
		"cars",
		"cars 7",
		"cars 7 of 8 nursery 4 registers 1",
		"cars 7 of 8 nursery 4 registers 1 popular",
		"cars 7 of 8 nursery 4 registers 1 popular ",
		text + " ",
		" " + text,
		text + "\n",
		text + "\r",
		text + "\x00",
		text + " popular 2",
		text + " 2",
		text + text,
		text + "\n" + text,
		strings.ReplaceAll(text, " ", "  "),
		strings.ReplaceAll(text, " ", "\t"),
		strings.ReplaceAll(text, " ", "\n"),
		strings.ReplaceAll(text, " ", ""),
		strings.ToUpper(text),
		"Cars 7 of 8 nursery 4 registers 1 popular 2",
		"cars  7 of 8 nursery 4 registers 1 popular 2",
		"cars 7  of 8 nursery 4 registers 1 popular 2",
		"cars\t7 of 8 nursery 4 registers 1 popular 2",
		"car 7 of 8 nursery 4 registers 1 popular 2",
		"carss 7 of 8 nursery 4 registers 1 popular 2",
		" 7 of 8 nursery 4 registers 1 popular 2",
		"\"cars\" 7 of 8 nursery 4 registers 1 popular 2",
		"cars \"7\" of 8 nursery 4 registers 1 popular 2",
		"cars, 7, of, 8, nursery, 4, registers, 1, popular, 2",
		"7 cars 8 of 4 nursery 1 registers 2 popular",
		"of 8 cars 7 nursery 4 registers 1 popular 2",
		"cars 7 of 8 registers 1 nursery 4 popular 2",
		"cars 7 of 8 nursery 4 popular 2 registers 1",
		"cars 7 cars 8 nursery 4 registers 1 popular 2",
		"cars seven of 8 nursery 4 registers 1 popular 2",
	} {
		if c, e := config.Parse(s); c != (api.Config{}) || e != api.ErrForm {
			t.Errorf("Parse(%q): %v, %d", s, c, e)
		}
	}
}

// P2.5: each number, and each word, in turn becomes something else.
func TestParseEachPart(t *testing.T) {
	text := strings.Split("cars 24 of 64 nursery 64 registers 8 popular 16", " ")
	become := func(i int, part string, want api.Errno) {
		parts := slices.Clone(text)
		parts[i] = part
		s := strings.Join(parts, " ")
		if c, e := config.Parse(s); c != (api.Config{}) || e != want {
			t.Errorf("Parse(%.80q): %v, %d, want %d", s, c, e, want)
		}
	}
	for i := range text {
		for _, part := range []string{"", "cars ", "nursery-", "x", "-", "--1", "+8", "08", "00", "-0", "-01", "8.", "8.0", "8x", "x8", "0x8", "8 ", " 8", "1e1", "8,", "٨", "8\n", "\xff"} {
			become(i, part, api.ErrForm)
		}
		for _, number := range []string{"0", "-1", "-8", "65", "100", "9223372036854775807", "-9223372036854775808", "9223372036854775808", "-9223372036854775809", "18446744073709551624", "4294967304", "1" + strings.Repeat("0", 3000), "-" + strings.Repeat("9", 9000)} {
			want := api.ErrRange
			if i%2 == 0 {
				want = api.ErrForm
			}
			become(i, number, want)
		}
	}
}

// P2.5: a wrong form counts before a number that is not as stated, wherever they are.
func TestParseOrderOfErrors(t *testing.T) {
	good := strings.Split("cars 7 of 8 nursery 4 registers 1 popular 2", " ")
	for i := 1; i < 10; i += 2 {
		for j := range 10 {
			parts := slices.Clone(good)
			parts[i] = "1000"
			if j != i {
				parts[j] = "x"
			}
			want := api.ErrForm
			if j == i {
				want = api.ErrRange
			}
			s := strings.Join(parts, " ")
			if c, e := config.Parse(s); c != (api.Config{}) || e != want {
				t.Errorf("Parse(%q): %v, %d, want %d", s, c, e, want)
			}
			if c, e := config.Parse(s + " "); c != (api.Config{}) || e != api.ErrForm {
				t.Errorf("Parse(%q): %v, %d", s+" ", c, e)
			}
		}
	}
}

// P2.5: the form is right, and all numbers are near their edges.
func TestParseNumbers(t *testing.T) {
	var l [5][]int
	for i, r := range ranges {
		l[i] = []int{-r[0], 0, r[0] - 1, r[0], r[1], r[1] + 1}
	}
	combine(l, func(c api.Config) {
		s, want, e := textOf(c), c, api.OK
		if !good(c) {
			want, e = api.Config{}, api.ErrRange
		}
		if got, f := config.Parse(s); got != want || f != e {
			t.Fatalf("Parse(%q): %v, %d", s, got, f)
		}
	})
}

var textForm = regexp.MustCompile(`^cars (0|-?[1-9][0-9]*) of (0|-?[1-9][0-9]*) nursery (0|-?[1-9][0-9]*) registers (0|-?[1-9][0-9]*) popular (0|-?[1-9][0-9]*)$`)

// wanted reads a text by its form.
func wanted(s string) (api.Config, api.Errno) {
	m := textForm.FindStringSubmatch(s)
	if m == nil {
		return api.Config{}, api.ErrForm
	}
	var n [5]int
	for i := range n {
		n[i], _ = strconv.Atoi(m[i+1]) // beyond 64 bits it is the nearest one
	}
	c := api.Config{N: n[0], C: n[1], S: n[2], K: n[3], Q: n[4]}
	if !good(c) {
		return api.Config{}, api.ErrRange
	}
	return c, api.OK
}

// P2.5, P2.8: texts in which some bytes have changed are accepted, too.
func TestParseAnyText(t *testing.T) {
	const bytes = "0123456789- \tcarsofnurseypgitl\"\\\n\x00\xff"
	r := dice()
	counts := map[api.Errno]int{}
	for range 200000 {
		b := []byte(textOf(anyGood(r)))
		for range r.Intn(3) {
			i, c := r.Intn(len(b)), bytes[r.Intn(len(bytes))]
			switch r.Intn(3) {
			case 0:
				b[i] = c
			case 1:
				b = slices.Insert(b, i, c)
			default:
				b = slices.Delete(b, i, i+1)
			}
		}
		want, e := wanted(string(b))
		counts[e]++
		if got, f := config.Parse(string(b)); got != want || f != e {
			t.Fatalf("Parse(%q): %v, %d, want %v, %d", b, got, f, want, e)
		}
	}
	if counts[api.OK] == 0 || counts[api.ErrForm] == 0 || counts[api.ErrRange] == 0 {
		t.Errorf("some results never came: %v", counts)
	}
}
