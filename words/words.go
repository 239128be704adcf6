// Package words is layer 1: see shared/doc/01-words.md. It reads and writes the text formats of the system: names, decimal numbers, quoted strings, lines of fields, and lists of numbers.
package words

import (
	"strings"

	"shunter/api"
)

// Name reports whether s is a name.
func Name(s string) bool {
	if s == "" || len(s) > api.MaxWord || !lower(s[0]) {
		return false
	}
	for i := 1; i < len(s); i++ {
		if !lower(s[i]) && !digit(s[i]) && s[i] != '-' {
			return false
		}
	}
	return true
}

// Lines returns the lines of a text, without their line feeds.
func Lines(text string) ([]string, api.Errno) {
	if len(text) > api.MaxText {
		return nil, api.ErrLong
	}
	if text != "" && !strings.HasSuffix(text, "\n") {
		return nil, api.ErrForm
	}
	if strings.Count(text, "\n") > api.MaxLines {
		return nil, api.ErrLong
	}
	var l []string
	for line := range strings.Lines(text) {
		// A part of the text would share its memory: results are new.
		l = append(l, strings.Clone(strings.TrimSuffix(line, "\n")))
	}
	return l, api.OK
}

func lower(c byte) bool { return 'a' <= c && c <= 'z' }

func digit(c byte) bool { return '0' <= c && c <= '9' }
