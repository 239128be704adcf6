package arena

import "shunter/api"

// player is an arena that operations change, the words that gets have read, and how many words were read and written.
type player struct {
	words []uint64
	got   []uint64
	count api.ArCount
}

// Play does operations one after the other. It returns the arena after them, what gets have read, and the counts; or the index of the first one that has an error.
func Play(w []uint64, l []api.ArOp) (v, got []uint64, count api.ArCount, at int, e api.Errno) {
	if e := Check(w); e != api.OK {
		return nil, nil, api.ArCount{}, 0, e
	}
	if len(l) > api.MaxPlays {
		return nil, nil, api.ArCount{}, -1, api.ErrLong
	}
	p := player{words: make([]uint64, len(w))}
	copy(p.words, w)
	kinds := p.kinds()
	for i, o := range l {
		switch do, is := kinds[o.Kind]; {
		case !is:
			return nil, nil, api.ArCount{}, i, api.ErrArg
		case !do(o):
			return nil, nil, api.ArCount{}, i, api.ErrRange
		}
	}
	return p.words, p.got, p.count, 0, api.OK
}

// after returns the arena after one operation.
func after(w []uint64, o api.ArOp) ([]uint64, api.Errno) {
	v, _, _, _, e := Play(w, []api.ArOp{o})
	return v, e
}

// kinds returns what does the operations of each kind, and reports whether their words are there. The map is made anew for each player, to whom its functions belong.
func (p *player) kinds() map[int]func(o api.ArOp) bool {
	return map[int]func(o api.ArOp) bool{
		api.ArGet:   p.get,
		api.ArSet:   p.set,
		api.ArCopy:  p.copy,
		api.ArClear: p.clear,
	}
}

func (p *player) get(o api.ArOp) bool {
	if !isPart(p.words, o.At, 1) {
		return false
	}
	p.got = append(p.got, p.words[o.At])
	p.count.Reads++
	return true
}

func (p *player) set(o api.ArOp) bool {
	if !isPart(p.words, o.At, 1) {
		return false
	}
	p.words[o.At] = o.Value
	p.count.Writes++
	return true
}

func (p *player) copy(o api.ArOp) bool {
	if !isPart(p.words, o.At, o.N) || !isPart(p.words, o.To, o.N) {
		return false
	}
	copy(p.words[o.To:o.To+o.N], p.words[o.At:])
	p.count.Reads += o.N
	p.count.Writes += o.N
	return true
}

func (p *player) clear(o api.ArOp) bool {
	if !isPart(p.words, o.At, o.N) {
		return false
	}
	clear(p.words[o.At : o.At+o.N])
	p.count.Writes += o.N
	return true
}
