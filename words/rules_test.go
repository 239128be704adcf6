package words_test

import (
	"math"
	"reflect"
	"slices"
	"strings"
	"testing"

	"shunter/api"
	"shunter/words"
)

// results calls all functions that take a string, and collects what they return.
func results(s string) []any {
	n, e1 := words.Int(s, math.MinInt64, math.MaxInt64)
	u, e2 := words.Unquote(s)
	fields, e3 := words.Split(s)
	lines, e4 := words.Lines(s)
	numbers, e5 := words.ParseList(s)
	bareLine, e6 := words.Join([]api.Field{{S: s}})
	line, e7 := words.Join([]api.Field{{S: s, Quoted: true}})
	return []any{words.Name(s), n, e1, u, e2, fields, e3, lines, e4, numbers, e5, bareLine, e6, line, e7, words.Quote(s)}
}

// R1, R2, R6, P1.8: all arguments are accepted; with an error the other result is zero; the same arguments have the same results.
func TestAnyString(t *testing.T) {
	r := dice()
	l := []string{"", strings.Repeat("a", 1<<20+1), strings.Repeat("\"", 8192), strings.Repeat("\\", 8192), strings.Repeat("\n", 1<<20), strings.Repeat("-", 9000), strings.Repeat(",", 9000), strings.Repeat("9", 9000), strings.Repeat("\xff", 9000)}
	for range 20000 {
		l = append(l, anyString(r, 20))
	}
	for _, s := range l {
		got := results(s)
		for i := 1; i+1 < len(got); i += 2 {
			v := reflect.ValueOf(got[i])
			zero := v.IsZero() || v.Kind() == reflect.Slice && v.Len() == 0
			if e := got[i+1].(api.Errno); e != api.OK && !zero {
				t.Errorf("%.40q: error %d, and %v", s, e, got[i])
			}
		}
		if !reflect.DeepEqual(got, results(s)) {
			t.Errorf("%.40q: results differ", s)
		}
	}
}

// R1, R2, P1.8: so are all lists.
func TestAnyList(t *testing.T) {
	r := dice()
	edges := []int{math.MinInt, math.MaxInt, -1, 0, 1, 1000000000, 1000000001}
	for range 20000 {
		l := make([]int, r.Intn(6))
		fields := make([]api.Field, r.Intn(70))
		for i := range l {
			l[i] = edges[r.Intn(len(edges))]
		}
		for i := range fields {
			fields[i] = api.Field{S: anyString(r, 3), Quoted: r.Intn(2) == 0}
		}
		if s, e := words.List(l); (e == api.OK) != (s != "") {
			t.Errorf("List(%v): %q, %d", l, s, e)
		}
		if s, e := words.Join(fields); e != api.OK && s != "" || e == api.OK && len(fields) > 0 && s == "" {
			t.Errorf("Join(%v): %q, %d", fields, s, e)
		}
	}
}

// R3: arguments are not changed, nor is what lies behind them in memory.
func TestArgumentsStay(t *testing.T) {
	fields := []api.Field{{S: "a"}, {S: "b c", Quoted: true}, {S: "d"}, {S: "e"}}
	numbers := []int{1, 2, 3, 7, 8, 9, 4, 5}
	f, n := slices.Clone(fields), slices.Clone(numbers)
	if s, e := words.Join(fields[:2]); s != `a "b c"` || e != api.OK {
		t.Errorf("Join: %q, %d", s, e)
	}
	if s, e := words.List(numbers[:6]); s != "1-3,7-9" || e != api.OK {
		t.Errorf("List: %q, %d", s, e)
	}
	if _, e := words.List(numbers); e != api.ErrForm {
		t.Errorf("List: %d", e)
	}
	if !slices.Equal(f, fields) || !slices.Equal(n, numbers) {
		t.Errorf("arguments have changed: %v, %v", fields, numbers)
	}
}

// R3, P1.8: results are new slices each time.
func TestFreshSlices(t *testing.T) {
	for range 2 {
		f, _ := words.Split(`a "b"`)
		l, _ := words.Lines("a\nb\n")
		n, _ := words.ParseList("1-2")
		if !slices.Equal(f, []api.Field{{S: "a"}, {S: "b", Quoted: true}}) || !slices.Equal(l, []string{"a", "b"}) || !slices.Equal(n, []int{1, 2}) {
			t.Fatalf("results: %v, %q, %v", f, l, n)
		}
		clear(f)
		clear(l)
		clear(n)
	}
}

// R3, P1.8: the strings of results have bytes of their own.
func TestFreshStrings(t *testing.T) {
	line, text := strings.Clone(`ab "cd"`), strings.Clone("ab\ncd\n")
	fields, _ := words.Split(line)
	lines, _ := words.Lines(text)
	one := []api.Field{{S: strings.Clone("abc")}}
	joined, _ := words.Join(one)
	quotedText := strings.Clone(`"abc"`)
	unquoted, _ := words.Unquote(quotedText)
	if shareMemory(joined, one[0].S) || shareMemory(unquoted, quotedText) {
		t.Errorf("a string shares memory with its argument")
	}
	for i, f := range fields {
		if shareMemory(f.S, line) {
			t.Errorf("field %d shares memory with the line", i)
		}
	}
	for i, s := range lines {
		if shareMemory(s, text) {
			t.Errorf("line %d shares memory with the text", i)
		}
	}
	if len(fields) != 2 || len(lines) != 2 || joined != "abc" || unquoted != "abc" {
		t.Errorf("results: %v, %q, %q, %q", fields, lines, joined, unquoted)
	}
}

// R4: nil and an empty list mean the same.
func TestEmptyLists(t *testing.T) {
	for _, l := range [][]api.Field{nil, {}} {
		if s, e := words.Join(l); s != "" || e != api.OK {
			t.Errorf("Join(%#v): %q, %d", l, s, e)
		}
	}
	for _, l := range [][]int{nil, {}} {
		if s, e := words.List(l); s != "-" || e != api.OK {
			t.Errorf("List(%#v): %q, %d", l, s, e)
		}
	}
}
