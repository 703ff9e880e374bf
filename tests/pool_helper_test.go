package tests

import (
	"bytes"
	"math"
	"math/rand"
	"slices"

	"loop.example/s02544/impl"
)

const (
	pageSize   = 4096
	mostFrames = 16
	mostPins   = 2147483647
)

// poolBytes are so many bytes as a page has, others for each number.
func poolBytes(number int64) []byte {
	b := bytes.Repeat([]byte{byte(number), byte(number >> 8), 7}, pageSize/3+1)
	return b[:pageSize]
}

// held is a frame with a page, without pins, clean, with its mark off.
func held(page int64) impl.Frame { return impl.Frame{Page: page, Bytes: poolBytes(page)} }

func pinned(page, pins int64) impl.Frame {
	f := held(page)
	f.Pins = pins
	return f
}

func dirty(page, lsn int64) impl.Frame {
	f := held(page)
	f.Dirty, f.RecLSN = true, lsn
	return f
}

func lit(f impl.Frame) impl.Frame {
	f.Ref = true
	return f
}

func emptyFrame() impl.Frame { return impl.Frame{Page: -1} }

func poolOf(hand int64, frames ...impl.Frame) impl.Pool {
	return copyPool(impl.Pool{Frames: frames, Hand: hand})
}

func copyPool(p impl.Pool) impl.Pool {
	c := impl.Pool{Hand: p.Hand}
	for _, f := range p.Frames {
		f.Bytes = append([]byte(nil), f.Bytes...)
		c.Frames = append(c.Frames, f)
	}
	return c
}

func sameFrame(a, b impl.Frame) bool {
	return a.Page == b.Page && bytes.Equal(a.Bytes, b.Bytes) && a.Pins == b.Pins && a.Dirty == b.Dirty && a.RecLSN == b.RecLSN && a.Ref == b.Ref
}

func samePool(a, b impl.Pool) bool {
	return a.Hand == b.Hand && slices.EqualFunc(a.Frames, b.Frames, sameFrame)
}

func sameResult(a, b impl.PoolResult) bool {
	return a.Code == b.Code && a.Frame == b.Frame && samePool(a.Pool, b.Pool)
}

// shortPool leaves the bytes out, for a message.
func shortPool(p impl.Pool) impl.Pool {
	c := impl.Pool{Hand: p.Hand}
	for _, f := range p.Frames {
		f.Bytes = append([]byte(nil), f.Bytes[:min(3, len(f.Bytes))]...)
		c.Frames = append(c.Frames, f)
	}
	return c
}

func shortResult(r impl.PoolResult) impl.PoolResult {
	r.Pool = shortPool(r.Pool)
	return r
}

func plainFrameFault(f impl.Frame) bool {
	if f.Page == -1 {
		return len(f.Bytes) > 0 || f.Pins != 0 || f.Dirty || f.RecLSN != 0 || f.Ref
	}
	return !within(f.Page, 0, 15) || len(f.Bytes) != pageSize || !within(f.Pins, 0, mostPins)
}

func plainPoolFault(p impl.Pool) int64 {
	if !within(int64(len(p.Frames)), 1, mostFrames) {
		return 1
	}
	if !within(p.Hand, 0, int64(len(p.Frames))-1) {
		return 2
	}
	for _, f := range p.Frames {
		if plainFrameFault(f) {
			return 3
		}
	}
	for _, f := range p.Frames {
		if f.Dirty && !within(f.RecLSN, 1, greatestLSN) || !f.Dirty && f.RecLSN != 0 {
			return 4
		}
	}
	for i, f := range p.Frames {
		for _, g := range p.Frames[:i] {
			if f.Page == g.Page && f.Page != -1 {
				return 5
			}
		}
	}
	return 0
}

func plainFind(p impl.Pool, page int64) int64 {
	for i, f := range p.Frames {
		if plainPoolFault(p) == 0 && page >= 0 && f.Page == page {
			return int64(i)
		}
	}
	return -1
}

// plainVictim does not go round: it asks for the first mark that is off, and
// where there is none, for the first frame without pins.
func plainVictim(p impl.Pool) impl.PoolResult {
	if plainPoolFault(p) != 0 {
		return impl.PoolResult{Code: 1}
	}
	p = copyPool(p)
	for i, f := range p.Frames {
		if f.Page == -1 {
			return impl.PoolResult{Frame: int64(i), Pool: p}
		}
	}
	n := int64(len(p.Frames))
	var free []int64
	for i := range n {
		if at := (p.Hand + i) % n; p.Frames[at].Pins == 0 {
			free = append(free, at)
		}
	}
	if len(free) == 0 {
		return impl.PoolResult{Code: 2}
	}
	off := slices.IndexFunc(free, func(at int64) bool { return !p.Frames[at].Ref })
	passed, named := free, free[0]
	if off >= 0 {
		passed, named = free[:off], free[off]
	}
	for _, at := range passed {
		p.Frames[at].Ref = false
	}
	p.Hand = (named + 1) % n
	return impl.PoolResult{Frame: named, Pool: p}
}

func plainPoolLoad(p impl.Pool, frame, page int64, b []byte) impl.PoolResult {
	switch {
	case plainPoolFault(p) != 0:
		return impl.PoolResult{Code: 1}
	case !within(frame, 0, int64(len(p.Frames))-1) || p.Frames[frame].Pins != 0 || p.Frames[frame].Dirty:
		return impl.PoolResult{Code: 2}
	case !within(page, 0, 15) || len(b) != pageSize:
		return impl.PoolResult{Code: 3}
	case plainFind(p, page) >= 0 && plainFind(p, page) != frame:
		return impl.PoolResult{Code: 4}
	}
	p = copyPool(p)
	p.Frames[frame] = impl.Frame{Page: page, Bytes: bytes.Clone(b), Ref: true}
	return impl.PoolResult{Frame: frame, Pool: p}
}

// plainTurn has the codes 1 and 2 of the calls that speak of a page.
func plainTurn(p impl.Pool, page int64, turn func(f *impl.Frame) int64) impl.PoolResult {
	if plainPoolFault(p) != 0 {
		return impl.PoolResult{Code: 1}
	}
	at := plainFind(p, page)
	if at < 0 {
		return impl.PoolResult{Code: 2}
	}
	p = copyPool(p)
	if code := turn(&p.Frames[at]); code != 0 {
		return impl.PoolResult{Code: code}
	}
	return impl.PoolResult{Frame: at, Pool: p}
}

func plainPin(p impl.Pool, page, more int64) impl.PoolResult {
	return plainTurn(p, page, func(f *impl.Frame) int64 {
		f.Pins, f.Ref = f.Pins+more, f.Ref || more > 0
		if !within(f.Pins, 0, mostPins) {
			return 3
		}
		return 0
	})
}

func plainPut(p impl.Pool, page int64, b []byte, lsn int64) impl.PoolResult {
	return plainTurn(p, page, func(f *impl.Frame) int64 {
		if len(b) != pageSize || !within(lsn, 1, greatestLSN) {
			return 3
		}
		if !f.Dirty {
			f.RecLSN = lsn
		}
		f.Bytes, f.Ref, f.Dirty = bytes.Clone(b), true, true
		return 0
	})
}

func plainClean(p impl.Pool, page int64) impl.PoolResult {
	return plainTurn(p, page, func(f *impl.Frame) int64 {
		f.Dirty, f.RecLSN = false, 0
		return 0
	})
}

// goodPools have each field at its ends.
func goodPools() []impl.Pool {
	full := impl.Pool{Hand: 15}
	for i := range int64(16) {
		f := pinned(15-i, i%3)
		f.Ref = i%2 == 0
		if i%4 == 1 {
			f.Dirty, f.RecLSN = true, 600+i
		}
		full.Frames = append(full.Frames, f)
	}
	return []impl.Pool{
		poolOf(0, emptyFrame()),
		poolOf(0, held(0)),
		poolOf(0, lit(held(15))),
		poolOf(1, emptyFrame(), emptyFrame()),
		poolOf(0, dirty(0, 1), dirty(15, greatestLSN)),
		poolOf(1, pinned(3, 1), pinned(4, mostPins)),
		poolOf(2, emptyFrame(), lit(held(2)), emptyFrame(), dirty(1, 512)),
		poolOf(3, held(5), emptyFrame(), lit(dirty(0, 700)), pinned(15, 2)),
		full,
		poolOf(15, slices.Repeat([]impl.Frame{emptyFrame()}, 16)...),
	}
}

// brokenPool is the pool without fault that poolBreaks are made for.
func brokenPool() impl.Pool {
	return poolOf(1, held(5), emptyFrame(), lit(dirty(0, 700)), pinned(15, 2), emptyFrame(), lit(held(7)))
}

type poolBreak struct {
	name   string
	change func(p *impl.Pool)
}

// poolBreaks are changes to brokenPool, by the code that each gives.
func poolBreaks() map[int64][]poolBreak {
	breaks := map[int64][]poolBreak{
		1: {
			{"no frames", func(p *impl.Pool) { p.Frames = nil }},
			{"no frames, the hand at 0", func(p *impl.Pool) { p.Frames, p.Hand = []impl.Frame{}, 0 }},
			{"17 frames", func(p *impl.Pool) {
				for len(p.Frames) < 17 {
					p.Frames = append(p.Frames, emptyFrame())
				}
			}},
			{"a frame for each page and one more", func(p *impl.Pool) {
				*p = impl.Pool{Frames: []impl.Frame{emptyFrame()}}
				for i := range int64(16) {
					p.Frames = append(p.Frames, held(i))
				}
			}},
		},
	}
	for _, hand := range []int64{-1, 6, 7, 16, math.MaxInt64, math.MinInt64} {
		breaks[2] = append(breaks[2], poolBreak{"the hand", func(p *impl.Pool) { p.Hand = hand }})
	}
	for _, f := range []impl.Frame{
		{Page: -1, Bytes: poolBytes(1)}, {Page: -1, Bytes: []byte{0}}, {Page: -1, Pins: 1}, {Page: -1, Pins: -1},
		{Page: -1, Dirty: true}, {Page: -1, Dirty: true, RecLSN: 700}, {Page: -1, RecLSN: 1}, {Page: -1, Ref: true},
	} {
		for _, i := range []int{1, 4} {
			breaks[3] = append(breaks[3], poolBreak{"something without a page", func(p *impl.Pool) { p.Frames[i] = f }})
		}
	}
	for _, i := range []int{0, 2, 3, 5} {
		for _, page := range []int64{-2, 16, 17, math.MaxInt64, math.MinInt64} {
			breaks[3] = append(breaks[3], poolBreak{"a page that there is not", func(p *impl.Pool) { p.Frames[i].Page = page }})
		}
		for _, pins := range []int64{-1, -2, mostPins + 1, math.MaxInt64, math.MinInt64} {
			breaks[3] = append(breaks[3], poolBreak{"pins", func(p *impl.Pool) { p.Frames[i].Pins = pins }})
		}
		breaks[3] = append(breaks[3],
			poolBreak{"no page, but what it had", func(p *impl.Pool) { p.Frames[i].Page = -1 }},
			poolBreak{"a byte less", func(p *impl.Pool) { p.Frames[i].Bytes = p.Frames[i].Bytes[1:] }},
			poolBreak{"a byte more", func(p *impl.Pool) { p.Frames[i].Bytes = append(bytes.Clone(p.Frames[i].Bytes), 0) }},
			poolBreak{"no bytes", func(p *impl.Pool) { p.Frames[i].Bytes = nil }})
		for _, lsn := range []int64{0, -1, greatestLSN + 1, math.MaxInt64, math.MinInt64} {
			breaks[4] = append(breaks[4], poolBreak{"dirty", func(p *impl.Pool) { p.Frames[i].Dirty, p.Frames[i].RecLSN = true, lsn }})
		}
		for _, lsn := range []int64{1, -1, 700, greatestLSN, math.MaxInt64, math.MinInt64} {
			breaks[4] = append(breaks[4], poolBreak{"clean", func(p *impl.Pool) { p.Frames[i].Dirty, p.Frames[i].RecLSN = false, lsn }})
		}
		for _, k := range []int{0, 2, 3, 5} {
			if k != i {
				breaks[5] = append(breaks[5], poolBreak{"a page twice", func(p *impl.Pool) { p.Frames[i].Page = p.Frames[k].Page }})
			}
		}
	}
	breaks[5] = append(breaks[5],
		poolBreak{"a page twice, the one next to the other", func(p *impl.Pool) { p.Frames[1] = held(5) }},
		poolBreak{"a page twice, the first and the last", func(p *impl.Pool) { p.Frames[5] = held(5) }},
		poolBreak{"a page in three frames", func(p *impl.Pool) { p.Frames[4], p.Frames[1] = held(0), held(0) }},
		poolBreak{"one frame twice", func(p *impl.Pool) { p.Frames[3] = p.Frames[2] }})
	return breaks
}

// faultyPools have one fault each.
func faultyPools() []impl.Pool {
	list := []impl.Pool{{}, {Hand: 1}}
	for code := int64(1); code <= 5; code++ {
		for _, b := range poolBreaks()[code] {
			p := brokenPool()
			b.change(&p)
			list = append(list, p)
		}
	}
	return list
}

// anyPool is without fault.
func anyPool(r *rand.Rand) impl.Pool {
	n := 1 + r.Intn(mostFrames)
	if r.Intn(2) == 0 {
		n = 1 + r.Intn(4)
	}
	p := impl.Pool{Hand: int64(r.Intn(n))}
	empties := r.Intn(3)
	busy := 1 + r.Intn(4)
	for _, page := range r.Perm(16)[:n] {
		f := held(int64(page))
		if f.Ref = r.Intn(2) == 0; r.Intn(busy) > 0 {
			f.Pins = []int64{1, 2, mostPins - 1, mostPins}[r.Intn(4)]
		}
		if f.Dirty = r.Intn(3) == 0; f.Dirty {
			f.RecLSN = []int64{1, 2, 700, greatestLSN}[r.Intn(4)]
		}
		if r.Intn(4) < empties {
			f = emptyFrame()
		}
		p.Frames = append(p.Frames, f)
	}
	return p
}
