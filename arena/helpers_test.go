package arena_test

import (
	"math"
	"math/rand"
	"slices"

	"shunter/api"
)

// w is the arena of the chapter's examples.
func w() []uint64 { return []uint64{0, 1, 2, 3, 4, 5} }

// counted returns an arena of n words, all of which differ, and but the first one are not 0.
func counted(n int) []uint64 {
	l := make([]uint64, n)
	for i := range l {
		l[i] = uint64(i) * 0x0101010101010101
	}
	return l
}

// lengths are those of arenas: the least, the greatest, and some between them.
func lengths() []int { return []int{1, 2, 3, 6, 61, 1600, 1601} }

// isPart says whether n words from a on are a part of an arena of so many words, as the chapter has it.
func isPart(words, a, n int) bool {
	if n < 0 || n > words || a < 1 || a > words {
		return false
	}
	for i := a; i < a+n; i++ {
		if i >= words {
			return false
		}
	}
	return true
}

// reads and writes are the words that an operation reads, and writes.
func reads(o api.ArOp) (a, n int) {
	switch o.Kind {
	case api.ArGet:
		return o.At, 1
	case api.ArCopy:
		return o.At, o.N
	}
	return 1, 0
}

func writes(o api.ArOp) (a, n int) {
	switch o.Kind {
	case api.ArSet:
		return o.At, 1
	case api.ArCopy:
		return o.To, o.N
	case api.ArClear:
		return o.At, o.N
	}
	return 1, 0
}

// errorOf is the error of an operation on an arena of so many words.
func errorOf(words int, o api.ArOp) api.Errno {
	if o.Kind < 1 || o.Kind > 4 {
		return api.ErrArg
	}
	from, n := reads(o)
	to, m := writes(o)
	if !isPart(words, from, n) || !isPart(words, to, m) {
		return api.ErrRange
	}
	return api.OK
}

// last is what the word at a is after the operations: it looks for the last one that wrote it, and for a copy further back from there.
func last(v []uint64, l []api.ArOp, a int) uint64 {
	for i := len(l) - 1; i >= 0; i-- {
		to, n := writes(l[i])
		if a < to || a >= to+n {
			continue
		}
		switch l[i].Kind {
		case api.ArSet:
			return l[i].Value
		case api.ArClear:
			return 0
		}
		a += l[i].At - to
	}
	return v[a]
}

// played is what Play has to return.
type played struct {
	v, got []uint64
	count  api.ArCount
	at     int
	e      api.Errno
}

// expected is that for good arenas and not too many operations.
func expected(v []uint64, l []api.ArOp) played {
	var p played
	for i, o := range l {
		if e := errorOf(len(v), o); e != api.OK {
			return played{at: i, e: e}
		}
		_, n := reads(o)
		_, m := writes(o)
		p.count.Reads += n
		p.count.Writes += m
		if o.Kind == api.ArGet {
			p.got = append(p.got, last(v, l[:i], o.At))
		}
	}
	for a := range v {
		p.v = append(p.v, last(v, l, a))
	}
	return p
}

func (p played) is(q played) bool {
	return slices.Equal(p.v, q.v) && slices.Equal(p.got, q.got) && p.count == q.count && p.at == q.at && p.e == q.e
}

// edgeNumbers are numbers that are not addresses of any arena, or counts of words, and some that are.
func edgeNumbers() []int {
	return []int{math.MinInt, math.MinInt + 1, math.MinInt + 6, math.MinInt32, -1601, -7, -6, -2, -1, 0, 1, 2, 3, 4, 5, 6, 7, 8,
		1600, 1601, 1602, math.MaxInt32, 1 << 32, 1<<32 + 1, math.MaxInt - 6, math.MaxInt - 1, math.MaxInt}
}

// around are the numbers from a little below those of an arena of 6 words to a little above.
func around() []int { return []int{-2, -1, 0, 1, 2, 3, 4, 5, 6, 7, 8} }

// dice returns numbers that are the same in each run.
func dice() *rand.Rand { return rand.New(rand.NewSource(1)) }

// anyArena returns an arena of few words, many of which are equal.
func anyArena(r *rand.Rand) []uint64 {
	v := make([]uint64, 1+r.Intn(12))
	for i := range v[1:] {
		v[1+i] = uint64(r.Intn(4))
	}
	return v
}

// anyOp returns an operation that is mostly good in an arena of so many words.
func anyOp(r *rand.Rand, words int) api.ArOp {
	at, to := 1+r.Intn(words), 1+r.Intn(words)
	n := r.Intn(words - max(at, to) + 1)
	return api.ArOp{Kind: 1 + r.Intn(4), At: at, To: to, N: n, Value: r.Uint64()}
}

// anyGood returns so many operations that have no error.
func anyGood(r *rand.Rand, words, n int) []api.ArOp {
	var l []api.ArOp
	for words > 1 && len(l) < n {
		if o := anyOp(r, words); errorOf(words, o) == api.OK {
			l = append(l, o)
		}
	}
	return l
}

// spoil returns the operation with one of its numbers replaced.
func spoil(r *rand.Rand, o api.ArOp) api.ArOp {
	edges := edgeNumbers()
	*[]*int{&o.Kind, &o.At, &o.To, &o.N}[r.Intn(4)] = edges[r.Intn(len(edges))]
	return o
}
