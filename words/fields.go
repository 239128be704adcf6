package words

import (
	"iter"
	"strings"

	"shunter/api"
)

// Split returns the fields of a line.
func Split(line string) ([]api.Field, api.Errno) {
	if len(line) > api.MaxLine {
		return nil, api.ErrLong
	}
	var l []api.Field
	long := false
	for f, ok := range fields(line) {
		if !ok {
			return nil, api.ErrForm
		}
		l = append(l, f)
		long = long || len(f.S) > api.MaxField
	}
	// Only now, as the wrong form of a later field is the error that counts.
	if long || len(l) > api.MaxFields {
		return nil, api.ErrLong
	}
	return l, api.OK
}

// Join returns the line that consists of the fields.
func Join(l []api.Field) (string, api.Errno) {
	if len(l) > api.MaxFields {
		return "", api.ErrLong
	}
	for _, f := range l {
		if len(f.S) > api.MaxField {
			return "", api.ErrLong
		}
	}
	var b []byte
	for i, f := range l {
		if !f.Quoted && (f.S == "" || bareBytes(f.S) < len(f.S)) {
			return "", api.ErrForm
		}
		if i > 0 {
			b = append(b, ' ')
		}
		b = appendField(b, f)
	}
	if len(b) > api.MaxLine {
		return "", api.ErrLong
	}
	return string(b), api.OK
}

func appendField(b []byte, f api.Field) []byte {
	if f.Quoted {
		return appendQuoted(b, f.S)
	}
	return append(b, f.S...)
}

// fields yields the fields of a line with true. Where the rest of the line has not the required form, it yields false instead, and ends.
func fields(line string) iter.Seq2[api.Field, bool] {
	return func(yield func(api.Field, bool) bool) {
		var f api.Field
		var n int
		var ok bool
		rest := line
		if rest == "" {
			return
		}
	field:
		if strings.HasPrefix(rest, `"`) {
			goto quoted
		}
		n = bareBytes(rest)
		// A part of the line would share its memory: results are new.
		f, ok = api.Field{S: strings.Clone(rest[:n])}, n > 0
		goto end
	quoted:
		f = api.Field{Quoted: true}
		f.S, n, ok = takeQuoted(rest)
	end:
		rest = rest[n:]
		if !ok || rest != "" && rest[0] != ' ' {
			yield(api.Field{}, false)
			return
		}
		if !yield(f, true) || rest == "" {
			return
		}
		rest = rest[1:]
		goto field
	}
}

// bareBytes returns how many bytes s begins with that a bare field may have.
func bareBytes(s string) int {
	n := 0
	for n < len(s) && plain(s[n]) && s[n] != ' ' {
		n++
	}
	return n
}
