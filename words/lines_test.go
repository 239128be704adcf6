package words_test

import (
	"slices"
	"strings"
	"testing"

	"shunter/api"
	"shunter/words"
)

// P1.5
func TestLines(t *testing.T) {
	for text, want := range map[string][]string{
		"":                  nil,
		"\n":                {""},
		"\n\n":              {"", ""},
		"a\n":               {"a"},
		"a\n\nb\n":          {"a", "", "b"},
		"\na\n":             {"", "a"},
		" a \r\n\t\n":       {" a \r", "\t"},
		"\x00\xff\né \\n\n": {"\x00\xff", "é \\n"},
	} {
		if got, e := words.Lines(text); !slices.Equal(got, want) || e != api.OK {
			t.Errorf("Lines(%q): %q, %d", text, got, e)
		}
	}
}

// P1.5
func TestLinesErrors(t *testing.T) {
	const most = 1 << 20
	for i, x := range []struct {
		text string
		n    int
		e    api.Errno
	}{
		{"a", 0, api.ErrForm},
		{"a\nb", 0, api.ErrForm},
		{"\n ", 0, api.ErrForm},
		{"a\r", 0, api.ErrForm},
		{"a\x00", 0, api.ErrForm},
		{strings.Repeat("\n", 5000), 5000, api.OK},
		{strings.Repeat("\n", 5001), 0, api.ErrLong},
		{strings.Repeat("ab\n", 5000), 5000, api.OK},
		{strings.Repeat("ab\n", 5001), 0, api.ErrLong},
		{strings.Repeat("\n", 5000) + "x", 0, api.ErrForm},
		{strings.Repeat("\n", 5001) + "x", 0, api.ErrForm},
		{strings.Repeat("x", most-1) + "\n", 1, api.OK},
		{strings.Repeat("x", most) + "\n", 0, api.ErrLong},
		{strings.Repeat("x", most), 0, api.ErrForm},
		{strings.Repeat("x", most+1), 0, api.ErrLong},
		{strings.Repeat("\n", most), 0, api.ErrLong},
	} {
		if got, e := words.Lines(x.text); len(got) != x.n || e != x.e {
			t.Errorf("%d: Lines: %d lines, %d; want %d, %d", i, len(got), e, x.n, x.e)
		}
	}
}

// P1.5: all short texts.
func TestLinesForms(t *testing.T) {
	each("a\n\r", 7, func(s string) {
		l, e := words.Lines(s)
		if s != "" && s[len(s)-1] != '\n' {
			if len(l) > 0 || e != api.ErrForm {
				t.Errorf("Lines(%q): %q, %d", s, l, e)
			}
			return
		}
		back := ""
		for _, line := range l {
			back += line + "\n"
		}
		if e != api.OK || back != s || len(l) != strings.Count(s, "\n") {
			t.Errorf("Lines(%q): %q, %d", s, l, e)
		}
	})
}
