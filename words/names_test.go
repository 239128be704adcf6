package words_test

import (
	"strings"
	"testing"

	"shunter/words"
)

func isLower(c byte) bool { return strings.IndexByte("abcdefghijklmnopqrstuvwxyz", c) >= 0 }

func isDigit(c byte) bool { return strings.IndexByte("0123456789", c) >= 0 }

// P1.1
func TestNameExamples(t *testing.T) {
	for s, want := range map[string]bool{
		"web-1": true, "a": true, "z9": true, "a-": true, "a--b": true, "abc": true,
		"Web": false, "": false, "-": false, "1": false, "a_b": false, "a b": false, " a": false, "a\n": false, "é": false, "aé": false, "a\x00": false,
	} {
		if words.Name(s) != want {
			t.Errorf("Name(%q) is not %v", s, want)
		}
	}
}

// P1.1
func TestNameBytes(t *testing.T) {
	for i := range 256 {
		c := byte(i)
		later := isLower(c) || isDigit(c) || c == '-'
		for s, want := range map[string]bool{
			string([]byte{c}):                           isLower(c),
			string([]byte{c, 'a'}):                      isLower(c),
			string([]byte{'a', c}):                      later,
			string([]byte{'a', c, 'b'}):                 later,
			strings.Repeat("b", 15) + string([]byte{c}): later,
		} {
			if words.Name(s) != want {
				t.Errorf("Name(%q) is not %v", s, want)
			}
		}
	}
}

// P1.1
func TestNameLength(t *testing.T) {
	for n := range 40 {
		if s := strings.Repeat("q", n); words.Name(s) != (1 <= n && n <= 16) {
			t.Errorf("Name of %d letters is %v", n, words.Name(s))
		}
	}
}
