package words_test

import (
	"regexp"
	"slices"
	"strings"
	"testing"

	"shunter/api"
	"shunter/words"
)

const fieldForm = `([!#-\[\]-~]+|"` + inner + `*")`

var lineForm = regexp.MustCompile(`^(` + fieldForm + `( ` + fieldForm + `)*)?$`)

func bare(l ...string) []api.Field {
	var out []api.Field
	for _, s := range l {
		out = append(out, api.Field{S: s})
	}
	return out
}

func quoted(s string) api.Field { return api.Field{S: s, Quoted: true} }

// P1.3 and P1.4: lines and their fields.
func TestSplitAndJoinExamples(t *testing.T) {
	for line, want := range map[string][]api.Field{
		`get / "a b"`:       {{S: "get"}, {S: "/"}, quoted("a b")},
		``:                  nil,
		`a`:                 bare("a"),
		`a b c`:             bare("a", "b", "c"),
		`""`:                {quoted("")},
		`"" ""`:             {quoted(""), quoted("")},
		`a "" b`:            {{S: "a"}, quoted(""), {S: "b"}},
		`"a" b`:             {quoted("a"), {S: "b"}},
		`" "`:               {quoted(" ")},
		`"\" \"" "\\"`:      {quoted(`" "`), quoted(`\`)},
		`"\n\x00"`:          {quoted("\n\x00")},
		`x='1' {!} #[]~ -0`: bare("x='1'", "{!}", "#[]~", "-0"),
	} {
		if got, e := words.Split(line); !slices.Equal(got, want) || e != api.OK {
			t.Errorf("Split(%q): %v, %d", line, got, e)
		}
		if got, e := words.Join(want); got != line || e != api.OK {
			t.Errorf("Join(%v): %q, %d", want, got, e)
		}
	}
}

// P1.3
func TestSplitErrors(t *testing.T) {
	a := strings.Repeat("a", 2001)
	for _, x := range []struct {
		line string
		e    api.Errno
	}{
		{"a  b", api.ErrForm},
		{" ", api.ErrForm},
		{"  ", api.ErrForm},
		{" a", api.ErrForm},
		{"a ", api.ErrForm},
		{"\"a\" ", api.ErrForm},
		{"a\tb", api.ErrForm},
		{"a\nb", api.ErrForm},
		{"a\n", api.ErrForm},
		{"a\x00", api.ErrForm},
		{"a\x7f", api.ErrForm},
		{"é", api.ErrForm},
		{`a"b`, api.ErrForm},
		{`a"b"`, api.ErrForm},
		{`"a"b`, api.ErrForm},
		{`"a""b"`, api.ErrForm},
		{`"a b`, api.ErrForm},
		{`a\b`, api.ErrForm},
		{`"\x41"`, api.ErrForm},
		{`"\x7F"`, api.ErrForm},
		{`a "`, api.ErrForm},
		{strings.Repeat("a", 2000), api.OK},
		{a, api.ErrLong},
		{a + " b", api.ErrLong},
		{"b " + a, api.ErrLong},
		{a + "  b", api.ErrForm},
		{a + ` "`, api.ErrForm},
		{`"` + strings.Repeat("a", 2000) + `"`, api.OK},
		{`"` + a + `"`, api.ErrLong},
		{`"` + strings.Repeat(`\x00`, 2000) + `"`, api.OK},
		{`"` + strings.Repeat(`\x00`, 2001) + `"`, api.ErrLong},
		{strings.Repeat("a ", 63) + "a", api.OK},
		{strings.Repeat("a ", 64) + "a", api.ErrLong},
		{strings.Repeat("a ", 63) + `""`, api.OK},
		{strings.Repeat("a ", 64) + `""`, api.ErrLong},
		{strings.Repeat("a ", 64), api.ErrForm},
		{strings.Repeat("a ", 70) + `"`, api.ErrForm},
		{strings.Repeat("a ", 4096), api.ErrForm},
		{strings.Repeat(" ", 8192), api.ErrForm},
		{strings.Repeat(" ", 8193), api.ErrLong},
		{strings.Repeat("a", 8192), api.ErrLong},
		{strings.Repeat("a", 8193), api.ErrLong},
		{strings.Repeat(`"\x00`, 2000), api.ErrLong},
	} {
		l, e := words.Split(x.line)
		if e != x.e || e != api.OK && len(l) > 0 {
			t.Errorf("Split(%.30q), %d bytes: %d fields, %d; want %d", x.line, len(x.line), len(l), e, x.e)
		}
	}
}

// P1.3: a line of just 8192 bytes, and one more.
func TestSplitLongest(t *testing.T) {
	l := bare(strings.Repeat("a", 2000), strings.Repeat("b", 2000), strings.Repeat("c", 2000), strings.Repeat("d", 2000), strings.Repeat("e", 188))
	line, e := words.Join(l)
	if len(line) != 8192 || e != api.OK {
		t.Fatalf("Join: %d bytes, %d", len(line), e)
	}
	if got, e := words.Split(line); !slices.Equal(got, l) || e != api.OK {
		t.Errorf("Split of 8192 bytes: %d fields, %d", len(got), e)
	}
	if got, e := words.Split(line + "e"); len(got) > 0 || e != api.ErrLong {
		t.Errorf("Split of 8193 bytes: %d fields, %d", len(got), e)
	}
	l[4].S += "e"
	if line, e := words.Join(l); line != "" || e != api.ErrLong {
		t.Errorf("Join to 8193 bytes: %d bytes, %d", len(line), e)
	}
}

// P1.3: all short lines over bytes that matter.
func TestSplitForms(t *testing.T) {
	each("a \"\\n~\x7f", 6, func(s string) {
		l, e := words.Split(s)
		if lineForm.MatchString(s) != (e == api.OK) || e != api.OK && (e != api.ErrForm || len(l) > 0) {
			t.Errorf("Split(%q): %v, %d", s, l, e)
		}
		if got, f := words.Join(l); e == api.OK && (got != s || f != api.OK) {
			t.Errorf("Join of Split(%q): %q, %d", s, got, f)
		}
	})
}

// P1.3, P1.4: each byte in a bare field, and between quotes.
func TestFieldBytes(t *testing.T) {
	for i := range 256 {
		c := string([]byte{byte(i)})
		fits := 33 <= i && i <= 126 && i != '"' && i != '\\'
		for _, f := range bare(c, "a"+c, c+"a", "a"+c+"a") {
			line, e := words.Join([]api.Field{f})
			if fits && (line != f.S || e != api.OK) || !fits && (line != "" || e != api.ErrForm) {
				t.Errorf("Join of the bare field %q: %q, %d", f.S, line, e)
			}
			if l, e := words.Split(f.S); fits && (!slices.Equal(l, []api.Field{f}) || e != api.OK) || !fits && e == api.OK && slices.Equal(l, []api.Field{f}) {
				t.Errorf("Split(%q): %v, %d", f.S, l, e)
			}
		}
		want := []api.Field{quoted(c), quoted("a" + c)}
		line := `"` + written(byte(i)) + `" "a` + written(byte(i)) + `"`
		if got, e := words.Join(want); got != line || e != api.OK {
			t.Errorf("Join of the quoted field %q: %q, %d", c, got, e)
		}
		if got, e := words.Split(line); !slices.Equal(got, want) || e != api.OK {
			t.Errorf("Split(%q): %v, %d", line, got, e)
		}
	}
}

func times(n int, f api.Field) []api.Field {
	l := make([]api.Field, n)
	for i := range l {
		l[i] = f
	}
	return l
}

// P1.4
func TestJoinErrors(t *testing.T) {
	long := strings.Repeat("a", 2001)
	for i, x := range []struct {
		l []api.Field
		e api.Errno
	}{
		{bare(""), api.ErrForm},
		{bare("a", ""), api.ErrForm},
		{bare("", "a"), api.ErrForm},
		{bare("a b"), api.ErrForm},
		{bare(" "), api.ErrForm},
		{bare(`"a"`), api.ErrForm},
		{bare(`a\`), api.ErrForm},
		{bare("a\n"), api.ErrForm},
		{bare("é"), api.ErrForm},
		{times(64, api.Field{S: "a"}), api.OK},
		{times(65, api.Field{S: "a"}), api.ErrLong},
		{times(64, quoted("")), api.OK},
		{times(65, quoted("")), api.ErrLong},
		{times(65, api.Field{}), api.ErrLong},
		{times(64, api.Field{}), api.ErrForm},
		{bare(strings.Repeat("a", 2000)), api.OK},
		{bare(long), api.ErrLong},
		{[]api.Field{quoted(strings.Repeat("a", 2000))}, api.OK},
		{[]api.Field{quoted(long)}, api.ErrLong},
		{bare("", long), api.ErrLong},
		{bare(long, ""), api.ErrLong},
		{bare(strings.Repeat(" ", 2001)), api.ErrLong},
		{times(4, api.Field{S: strings.Repeat("a", 2000)}), api.OK},
		{times(5, api.Field{S: strings.Repeat("a", 2000)}), api.ErrLong},
		{append(times(5, api.Field{S: strings.Repeat("a", 2000)}), api.Field{S: " "}), api.ErrForm},
		{append(times(5, api.Field{S: strings.Repeat("a", 2000)}), api.Field{}), api.ErrForm},
		{[]api.Field{quoted(strings.Repeat("\x00", 2000))}, api.OK},
		{times(2, quoted(strings.Repeat("\x00", 2000))), api.ErrLong},
		{times(2, quoted(strings.Repeat("\x00", 1023))), api.OK},
		{times(2, quoted(strings.Repeat("\x00", 1024))), api.ErrLong},
		{append(times(2, quoted(strings.Repeat("\x00", 1024))), api.Field{}), api.ErrForm},
	} {
		if line, e := words.Join(x.l); e != x.e || e != api.OK && line != "" {
			t.Errorf("%d: Join: %d bytes, %d; want %d", i, len(line), e, x.e)
		}
	}
}

// P1.4: with quotes and escapes, too, a line may have just 8192 bytes.
func TestJoinLongest(t *testing.T) {
	l := []api.Field{quoted(strings.Repeat("\x00", 1023)), quoted(strings.Repeat("\x00", 1022)), {}}
	for n, want := range []api.Errno{api.OK, api.ErrLong} {
		// 4 times 2045 bytes for escapes, 4 quotes and 2 spaces leave 6 bytes.
		l[2].S = strings.Repeat("a", 6+n)
		line, e := words.Join(l)
		if e != want || e == api.OK && len(line) != 8192 {
			t.Errorf("Join: %d bytes, %d; want %d", len(line), e, want)
		}
	}
}
