package config

import (
	"strings"

	"shunter/api"
	"shunter/words"
)

// Print returns the text of a config.
func Print(c api.Config) (string, api.Errno) {
	if e := Check(c); e != api.OK {
		return "", e
	}
	var parts []string
	for _, l := range limits() {
		parts = append(parts, l.word, words.Digits(int64(*l.number(&c))))
	}
	return strings.Join(parts, " "), api.OK
}

// Parse returns the config whose text it is.
func Parse(text string) (api.Config, api.Errno) {
	table := limits()
	// One part more than there should be is enough to see that there are too many.
	parts := strings.SplitN(text, " ", 2*len(table)+1)
	if len(parts) != 2*len(table) {
		return api.Config{}, api.ErrForm
	}
	var c api.Config
	inRange := true
	for i, l := range table {
		n, e := words.Int(parts[2*i+1], int64(l.low), int64(l.high))
		if parts[2*i] != l.word || e == api.ErrForm {
			return api.Config{}, api.ErrForm
		}
		inRange = inRange && e == api.OK
		*l.number(&c) = int(n)
	}
	// Only now, as the wrong form of a later part is the error that counts.
	if !inRange {
		return api.Config{}, api.ErrRange
	}
	return c, api.OK
}
