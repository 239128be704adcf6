package words_test

import (
	"fmt"
	"regexp"
	"strings"
	"testing"

	"shunter/api"
	"shunter/words"
)

// inner is what stands for one byte between quotes.
const inner = `([ !#-\[\]-~]|\\["\\nrt]|\\x(0[0-8bcef]|1[0-9a-f]|7f|[89a-f][0-9a-f]))`

var quotedForm = regexp.MustCompile(`^"` + inner + `*"$`)

// written is the written form of a byte.
func written(c byte) string {
	switch {
	case c == '"':
		return `\"`
	case c == '\\':
		return `\\`
	case c == 10:
		return `\n`
	case c == 13:
		return `\r`
	case c == 9:
		return `\t`
	case c < 32 || c > 126:
		return fmt.Sprintf(`\x%02x`, c)
	}
	return string([]byte{c})
}

// P1.2
func TestQuoteExamples(t *testing.T) {
	for s, want := range map[string]string{
		"a\n\x00\"":    `"a\n\x00\""`,
		"":             `""`,
		"a b":          `"a b"`,
		`\n`:           `"\\n"`,
		"é":            `"\xc3\xa9"`,
		" !#[]~":       `" !#[]~"`,
		"\x1f\x7f\xff": `"\x1f\x7f\xff"`,
		"'/":           `"'/"`,
	} {
		if got := words.Quote(s); got != want {
			t.Errorf("Quote(%q): %s, want %s", s, got, want)
		}
		if got, e := words.Unquote(want); got != s || e != api.OK {
			t.Errorf("Unquote(%s): %q, %d", want, got, e)
		}
	}
}

// P1.2: each byte, alone and beside others.
func TestQuoteBytes(t *testing.T) {
	for i := range 256 {
		for j := range 256 {
			s := string([]byte{byte(i), byte(j)})
			want := `"` + written(byte(i)) + written(byte(j)) + `"`
			if got := words.Quote(s); got != want {
				t.Errorf("Quote(%q): %s, want %s", s, got, want)
			}
			if got, e := words.Unquote(want); got != s || e != api.OK {
				t.Errorf("Unquote(%s): %q, %d", want, got, e)
			}
		}
	}
}

// P1.2
func TestQuoteLong(t *testing.T) {
	for _, n := range []int{2000, 2001, 8193, 1<<20 + 1} {
		s := strings.Repeat("\x00a", n)
		want := `"` + strings.Repeat(`\x00a`, n) + `"`
		if words.Quote(s) != want {
			t.Errorf("Quote of %d bytes is wrong", 2*n)
		}
		if got, e := words.Unquote(want); got != s || e != api.OK {
			t.Errorf("Unquote of %d bytes is wrong: %d", len(want), e)
		}
	}
}

// P1.2
func TestUnquoteWrong(t *testing.T) {
	for _, s := range []string{
		`"\x41"`, `"\x7F"`, `"a`, // the chapter's
		``, `"`, `a`, `a"`, `"a" `, ` "a"`, `"a"b"`, `"a""b"`, `""a`, `"\"`, `"\`, `"\x`, `"\x0`, `"\x0"`, `"\x00`, `"\xg0"`, `"\x0g"`, `"\X00"`, `"\a"`, `"\0"`, `"\'"`, `"\N"`,
		`"\x09"`, `"\x0a"`, `"\x0d"`, `"\x22"`, `"\x5c"`, `"\x20"`, `"\x7e"`, `"\xFF"`, `"\xfF"`, `"\xFf"`, `"\x1F"`,
		"\"\n\"", "\"\t\"", "\"\x00\"", "\"\x1f\"", "\"\x7f\"", "\"\x80\"", "\"é\"", "'a'", "`a`", "\"a\"\n",
	} {
		if got, e := words.Unquote(s); got != "" || e != api.ErrForm {
			t.Errorf("Unquote(%q): %q, %d", s, got, e)
		}
	}
}

// P1.2: all that may follow a backslash and an x.
func TestUnquoteHex(t *testing.T) {
	for i := range 256 {
		for _, format := range []string{`"\x%02x"`, `"\x%02X"`, `"a\x%02xb"`, `"\x%x"`} {
			checkUnquote(t, fmt.Sprintf(format, i))
		}
	}
}

// P1.2: all short strings over bytes that matter, with and without quotes around them.
func TestUnquoteForms(t *testing.T) {
	each("\"\\x07fFna \n\x80", 4, func(s string) {
		checkUnquote(t, s)
		checkUnquote(t, `"`+s+`"`)
	})
}

// checkUnquote compares Unquote with a regular expression.
func checkUnquote(t *testing.T, s string) {
	got, e := words.Unquote(s)
	if quotedForm.MatchString(s) != (e == api.OK) || e != api.OK && (e != api.ErrForm || got != "") {
		t.Errorf("Unquote(%q): %q, %d", s, got, e)
	}
	if e == api.OK && words.Quote(got) != s {
		t.Errorf("Unquote(%q): %q has another quoted form", s, got)
	}
}
