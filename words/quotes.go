package words

import (
	"strings"

	"shunter/api"
)

// escape is a byte that is written as a backslash and a letter.
type escape struct{ meant, letter byte }

// escapes are the bytes with a letter of their own. All other bytes that do not stand for themselves are written with hexDigits.
var escapes = [5]escape{{'"', '"'}, {'\\', '\\'}, {'\n', 'n'}, {'\r', 'r'}, {'\t', 't'}}

const hexDigits = "0123456789abcdef"

// Quote returns the quoted form of s.
func Quote(s string) string { return string(appendQuoted(nil, s)) }

// Unquote returns the string whose quoted form is s.
func Unquote(s string) (string, api.Errno) {
	text, n, ok := takeQuoted(s)
	if !ok || n < len(s) {
		return "", api.ErrForm
	}
	return text, api.OK
}

// plain reports whether a byte stands for itself between quotes.
func plain(c byte) bool { return 32 <= c && c <= 126 && c != '"' && c != '\\' }

// letterOf returns the letter that a byte is written with after a backslash, if it has one.
func letterOf(c byte) (byte, bool) {
	for _, x := range escapes {
		if x.meant == c {
			return x.letter, true
		}
	}
	return 0, false
}

// meaningOf returns the byte that a letter stands for after a backslash, if it is one of them.
func meaningOf(letter byte) (byte, bool) {
	for _, x := range escapes {
		if x.letter == letter {
			return x.meant, true
		}
	}
	return 0, false
}

func appendQuoted(b []byte, s string) []byte {
	b = append(b, '"')
	for i := 0; i < len(s); i++ {
		b = appendByte(b, s[i])
	}
	return append(b, '"')
}

func appendByte(b []byte, c byte) []byte {
	if plain(c) {
		return append(b, c)
	}
	if letter, ok := letterOf(c); ok {
		return append(b, '\\', letter)
	}
	return append(b, '\\', 'x', hexDigits[c>>4], hexDigits[c&15])
}

// takeQuoted reads the quoted form that s begins with: its string, and how many bytes it has.
func takeQuoted(s string) (text string, n int, ok bool) {
	if !strings.HasPrefix(s, `"`) {
		return "", 0, false
	}
	var b []byte
	for i := 1; i < len(s); {
		if s[i] == '"' {
			return string(b), i + 1, true
		}
		c, taken, ok := takeByte(s[i:])
		if !ok {
			return "", 0, false
		}
		b = append(b, c)
		i += taken
	}
	return "", 0, false
}

// takeByte reads the written form of one byte that s, which is not empty, begins with.
func takeByte(s string) (c byte, n int, ok bool) {
	if plain(s[0]) {
		return s[0], 1, true
	}
	if s[0] != '\\' || len(s) < 2 {
		return 0, 0, false
	}
	if c, ok := meaningOf(s[1]); ok {
		return c, 2, true
	}
	return takeHex(s)
}

// takeHex reads a backslash, an x and two digits.
func takeHex(s string) (c byte, n int, ok bool) {
	if len(s) < 4 || s[1] != 'x' {
		return 0, 0, false
	}
	high, low := strings.IndexByte(hexDigits, s[2]), strings.IndexByte(hexDigits, s[3])
	if high < 0 || low < 0 {
		return 0, 0, false
	}
	c = byte(high<<4 | low)
	// A string has just one quoted form, so a byte with a shorter form is never written with digits.
	if _, short := letterOf(c); short || plain(c) {
		return 0, 0, false
	}
	return c, 4, true
}
