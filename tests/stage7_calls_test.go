package tests

import (
	"bytes"
	"math"
	"math/rand"
	"testing"

	"loop.example/s02544/impl"
)

// askedPool is what the tests of the calls begin with.
func askedPool() impl.Pool {
	return poolOf(2, held(5), emptyFrame(), lit(dirty(0, 700)), lit(pinned(15, 2)), lit(held(7)), pinned(3, mostPins), dirty(9, greatestLSN))
}

// turnedPool has another frame in one place.
func turnedPool(frame int, f impl.Frame) impl.Pool {
	p := askedPool()
	p.Frames[frame] = f
	return p
}

func holdResult(t *testing.T, name string, got, want impl.PoolResult) {
	t.Helper()
	if !sameResult(got, want) {
		t.Errorf("%s: %+v and not %+v", name, shortResult(got), shortResult(want))
	}
}

func withBytes(f impl.Frame, b []byte) impl.Frame {
	f.Bytes = b
	return f
}

func TestPoolLoad(t *testing.T) {
	fresh := poolBytes(500)
	loaded := func(frame int, page int64) impl.PoolResult {
		return impl.PoolResult{Frame: int64(frame), Pool: turnedPool(frame, impl.Frame{Page: page, Bytes: fresh, Ref: true})}
	}
	for _, c := range []struct {
		name        string
		frame, page int64
		bytes       []byte
		want        impl.PoolResult
	}{
		{"into an empty frame", 1, 8, fresh, loaded(1, 8)},
		{"the page 1 into an empty frame", 1, 1, fresh, loaded(1, 1)},
		{"in the place of another page", 0, 14, fresh, loaded(0, 14)},
		{"in the place of a page with its mark on", 4, 4, fresh, loaded(4, 4)},
		{"into the frame that holds it", 0, 5, fresh, loaded(0, 5)},
		{"into the frame that holds it, with its mark on", 4, 7, fresh, loaded(4, 7)},
		{"a frame below the first", -1, 8, fresh, impl.PoolResult{Code: 2}},
		{"a frame behind the last", 7, 8, fresh, impl.PoolResult{Code: 2}},
		{"a frame far behind", math.MaxInt64, 8, fresh, impl.PoolResult{Code: 2}},
		{"a frame far below", math.MinInt64, 8, fresh, impl.PoolResult{Code: 2}},
		{"a frame with pins", 3, 8, fresh, impl.PoolResult{Code: 2}},
		{"a frame with the most pins", 5, 8, fresh, impl.PoolResult{Code: 2}},
		{"a dirty frame", 2, 8, fresh, impl.PoolResult{Code: 2}},
		{"a dirty frame that holds it", 2, 0, fresh, impl.PoolResult{Code: 2}},
		{"a frame with pins that holds it", 3, 15, fresh, impl.PoolResult{Code: 2}},
		{"the page -1", 1, -1, fresh, impl.PoolResult{Code: 3}},
		{"the page -1 without bytes", 1, -1, nil, impl.PoolResult{Code: 3}},
		{"the page 16", 1, 16, fresh, impl.PoolResult{Code: 3}},
		{"a page far behind", 0, math.MaxInt64, fresh, impl.PoolResult{Code: 3}},
		{"a page far below", 0, math.MinInt64, fresh, impl.PoolResult{Code: 3}},
		{"a byte less", 1, 8, fresh[1:], impl.PoolResult{Code: 3}},
		{"a byte more", 1, 8, append(bytes.Clone(fresh), 0), impl.PoolResult{Code: 3}},
		{"no bytes", 1, 8, nil, impl.PoolResult{Code: 3}},
		{"a page of another frame", 1, 5, fresh, impl.PoolResult{Code: 4}},
		{"a page of the last frame", 0, 9, fresh, impl.PoolResult{Code: 4}},
		{"a page of the frame behind", 0, 0, fresh, impl.PoolResult{Code: 4}},
		{"a dirty frame, and a page that is none", 2, 16, fresh, impl.PoolResult{Code: 2}},
		{"a frame with pins, and no bytes", 3, 8, nil, impl.PoolResult{Code: 2}},
		{"no frame, and a page of another frame", 7, 5, fresh, impl.PoolResult{Code: 2}},
		{"a dirty frame, and a page of another frame", 2, 5, fresh, impl.PoolResult{Code: 2}},
		{"a byte less, and a page of another frame", 1, 5, fresh[1:], impl.PoolResult{Code: 3}},
	} {
		holdResult(t, c.name, impl.PoolLoad(askedPool(), c.frame, c.page, c.bytes), c.want)
		holdResult(t, c.name+", the test's own answer", plainPoolLoad(askedPool(), c.frame, c.page, c.bytes), c.want)
	}
}

func TestPoolPin(t *testing.T) {
	for _, c := range []struct {
		name string
		page int64
		want impl.PoolResult
	}{
		{"the first pin", 5, impl.PoolResult{Frame: 0, Pool: turnedPool(0, lit(pinned(5, 1)))}},
		{"a pin more", 15, impl.PoolResult{Frame: 3, Pool: turnedPool(3, lit(pinned(15, 3)))}},
		{"a page with its mark on", 7, impl.PoolResult{Frame: 4, Pool: turnedPool(4, lit(pinned(7, 1)))}},
		{"a page that is not held", 8, impl.PoolResult{Code: 2}},
		{"the page -1", -1, impl.PoolResult{Code: 2}},
		{"the page 16", 16, impl.PoolResult{Code: 2}},
		{"a page far behind", math.MaxInt64, impl.PoolResult{Code: 2}},
		{"a page far below", math.MinInt64, impl.PoolResult{Code: 2}},
		{"one more than the most", 3, impl.PoolResult{Code: 3}},
	} {
		holdResult(t, c.name, impl.PoolPin(askedPool(), c.page), c.want)
		holdResult(t, c.name+", the test's own answer", plainPin(askedPool(), c.page, 1), c.want)
	}
	got := impl.PoolPin(askedPool(), 9)
	f := lit(dirty(9, greatestLSN))
	f.Pins = 1
	holdResult(t, "a dirty page", got, impl.PoolResult{Frame: 6, Pool: turnedPool(6, f)})
	last := poolOf(0, pinned(3, mostPins-1))
	holdResult(t, "the last pin", impl.PoolPin(last, 3), impl.PoolResult{Pool: poolOf(0, lit(pinned(3, mostPins)))})
}

func TestPoolUnpin(t *testing.T) {
	for _, c := range []struct {
		name string
		page int64
		want impl.PoolResult
	}{
		{"a pin less, the mark stays on", 15, impl.PoolResult{Frame: 3, Pool: turnedPool(3, lit(pinned(15, 1)))}},
		{"a pin less, the mark stays off", 3, impl.PoolResult{Frame: 5, Pool: turnedPool(5, pinned(3, mostPins-1))}},
		{"a page without pins", 5, impl.PoolResult{Code: 3}},
		{"a page without pins, with its mark on", 7, impl.PoolResult{Code: 3}},
		{"a dirty page without pins", 0, impl.PoolResult{Code: 3}},
		{"a page that is not held", 8, impl.PoolResult{Code: 2}},
		{"the page -1", -1, impl.PoolResult{Code: 2}},
		{"the page 16", 16, impl.PoolResult{Code: 2}},
		{"a page far behind", math.MaxInt64, impl.PoolResult{Code: 2}},
		{"a page far below", math.MinInt64, impl.PoolResult{Code: 2}},
	} {
		holdResult(t, c.name, impl.PoolUnpin(askedPool(), c.page), c.want)
		holdResult(t, c.name+", the test's own answer", plainPin(askedPool(), c.page, -1), c.want)
	}
	holdResult(t, "the last pin", impl.PoolUnpin(poolOf(0, pinned(3, 1)), 3), impl.PoolResult{Pool: poolOf(0, held(3))})
	f := dirty(3, 700)
	f.Pins = 1
	holdResult(t, "the last pin of a dirty page", impl.PoolUnpin(poolOf(0, f), 3), impl.PoolResult{Pool: poolOf(0, dirty(3, 700))})
}

func TestPoolPut(t *testing.T) {
	fresh := poolBytes(501)
	put := func(frame int, f impl.Frame) impl.PoolResult {
		return impl.PoolResult{Frame: int64(frame), Pool: turnedPool(frame, withBytes(lit(f), fresh))}
	}
	busy := pinned(15, 2)
	busy.Dirty, busy.RecLSN = true, 900
	for _, c := range []struct {
		name  string
		page  int64
		bytes []byte
		lsn   int64
		want  impl.PoolResult
	}{
		{"a clean page", 5, fresh, 800, put(0, dirty(5, 800))},
		{"a clean page with its mark on", 7, fresh, 800, put(4, dirty(7, 800))},
		{"the LSN 1", 5, fresh, 1, put(0, dirty(5, 1))},
		{"the greatest LSN", 5, fresh, greatestLSN, put(0, dirty(5, greatestLSN))},
		{"a page with pins", 15, fresh, 900, put(3, busy)},
		{"a dirty page, a greater LSN", 0, fresh, 800, put(2, dirty(0, 700))},
		{"a dirty page, a lesser LSN", 0, fresh, 1, put(2, dirty(0, 700))},
		{"a dirty page of the greatest LSN", 9, fresh, 1, put(6, dirty(9, greatestLSN))},
		{"a page that is not held", 8, fresh, 800, impl.PoolResult{Code: 2}},
		{"the page -1", -1, fresh, 800, impl.PoolResult{Code: 2}},
		{"the page 16", 16, fresh, 800, impl.PoolResult{Code: 2}},
		{"a page far below", math.MinInt64, fresh, 800, impl.PoolResult{Code: 2}},
		{"a byte less", 5, fresh[1:], 800, impl.PoolResult{Code: 3}},
		{"a byte more", 5, append(bytes.Clone(fresh), 0), 800, impl.PoolResult{Code: 3}},
		{"no bytes", 5, nil, 800, impl.PoolResult{Code: 3}},
		{"the LSN 0", 5, fresh, 0, impl.PoolResult{Code: 3}},
		{"the LSN 0 of a dirty page", 0, fresh, 0, impl.PoolResult{Code: 3}},
		{"the LSN -1", 5, fresh, -1, impl.PoolResult{Code: 3}},
		{"one above the greatest LSN", 5, fresh, greatestLSN + 1, impl.PoolResult{Code: 3}},
		{"one above the greatest LSN, of a dirty page", 0, fresh, greatestLSN + 1, impl.PoolResult{Code: 3}},
		{"the greatest number", 5, fresh, math.MaxInt64, impl.PoolResult{Code: 3}},
		{"the least number", 5, fresh, math.MinInt64, impl.PoolResult{Code: 3}},
		{"a page that is not held, and no bytes", 8, nil, 800, impl.PoolResult{Code: 2}},
		{"a page that is not held, and the LSN 0", 8, fresh, 0, impl.PoolResult{Code: 2}},
	} {
		holdResult(t, c.name, impl.PoolPut(askedPool(), c.page, c.bytes, c.lsn), c.want)
		holdResult(t, c.name+", the test's own answer", plainPut(askedPool(), c.page, c.bytes, c.lsn), c.want)
	}
}

func TestPoolClean(t *testing.T) {
	for _, c := range []struct {
		name string
		page int64
		want impl.PoolResult
	}{
		{"a dirty page, the mark stays on", 0, impl.PoolResult{Frame: 2, Pool: turnedPool(2, lit(held(0)))}},
		{"a dirty page, the mark stays off", 9, impl.PoolResult{Frame: 6, Pool: turnedPool(6, held(9))}},
		{"a clean page", 5, impl.PoolResult{Frame: 0, Pool: askedPool()}},
		{"a clean page with pins", 15, impl.PoolResult{Frame: 3, Pool: askedPool()}},
		{"a page that is not held", 8, impl.PoolResult{Code: 2}},
		{"the page -1", -1, impl.PoolResult{Code: 2}},
		{"the page 16", 16, impl.PoolResult{Code: 2}},
		{"a page far behind", math.MaxInt64, impl.PoolResult{Code: 2}},
		{"a page far below", math.MinInt64, impl.PoolResult{Code: 2}},
	} {
		holdResult(t, c.name, impl.PoolClean(askedPool(), c.page), c.want)
		holdResult(t, c.name+", the test's own answer", plainClean(askedPool(), c.page), c.want)
	}
	f := dirty(3, 700)
	f.Pins = 4
	holdResult(t, "a dirty page with pins", impl.PoolClean(poolOf(0, f), 3), impl.PoolResult{Pool: poolOf(0, pinned(3, 4))})
}

// TestCallsOnFaultyPools asks with good arguments, and with some that have a code of their own.
func TestCallsOnFaultyPools(t *testing.T) {
	want := impl.PoolResult{Code: 1}
	good := poolBytes(4)
	for _, p := range faultyPools() {
		for _, page := range []int64{-1, 0, 5, 8, 15, 16} {
			for _, frame := range []int64{-1, 0, 1, 2, 6} {
				holdResult(t, "PoolLoad", impl.PoolLoad(p, frame, page, good), want)
			}
			holdResult(t, "PoolLoad of no bytes", impl.PoolLoad(p, 1, page, nil), want)
			holdResult(t, "PoolPin", impl.PoolPin(p, page), want)
			holdResult(t, "PoolUnpin", impl.PoolUnpin(p, page), want)
			holdResult(t, "PoolPut", impl.PoolPut(p, page, good, 700), want)
			holdResult(t, "PoolPut of the LSN 0", impl.PoolPut(p, page, good, 0), want)
			holdResult(t, "PoolPut of no bytes", impl.PoolPut(p, page, nil, 700), want)
			holdResult(t, "PoolClean", impl.PoolClean(p, page), want)
		}
	}
}

// pageFate is what the tests know of a page that a pool holds.
type pageFate struct {
	bytes []byte
	pins  int64
	dirty bool
	lsn   int64
}

// poolRun makes calls one behind the other on one pool, and follows its pages.
type poolRun struct {
	t     *testing.T
	r     *rand.Rand
	pool  impl.Pool
	fates map[int64]*pageFate
	codes map[[2]int64]int
}

const (
	callVictim = iota
	callLoad
	callPin
	callUnpin
	callPut
	callClean
	poolCallKinds
)

// take holds an answer against the plain one; the pool goes on from it where it is good.
func (x *poolRun) take(kind int64, got, want impl.PoolResult) bool {
	x.t.Helper()
	if !sameResult(got, want) {
		x.t.Fatalf("the call %d on %+v: %+v and not %+v", kind, shortPool(x.pool), shortResult(got), shortResult(want))
	}
	x.codes[[2]int64{kind, got.Code}]++
	if got.Code == 0 {
		x.pool = got.Pool
	}
	return got.Code == 0
}

func (x *poolRun) anyLSN() int64 {
	return []int64{0, 1, 700, greatestLSN, greatestLSN + 1, 1 + x.r.Int63n(1000), 1 + x.r.Int63n(greatestLSN)}[x.r.Intn(7)]
}

func (x *poolRun) anyBytes() []byte {
	b := poolBytes(x.r.Int63n(60000))
	return b[:len(b)-max(0, x.r.Intn(12)-10)]
}

func (x *poolRun) victim() {
	frees := 0
	for _, f := range x.pool.Frames {
		if f.Pins == 0 {
			frees++
		}
	}
	before := x.pool
	got := impl.PoolVictim(x.pool)
	if x.take(callVictim, got, plainVictim(before)) != (frees > 0) {
		x.t.Fatalf("%d frames without pins, and the code %d", frees, got.Code)
	}
	if got.Code == 0 && before.Frames[got.Frame].Pins != 0 {
		x.t.Fatal("the victim has pins")
	}
	// Most victims are taken, so that pages come and go.
	if got.Code != 0 || x.r.Intn(4) == 0 {
		return
	}
	if old := x.pool.Frames[got.Frame]; old.Dirty {
		x.clean(old.Page)
	}
	x.load(got.Frame, x.r.Int63n(16))
}

func (x *poolRun) load(frame, page int64) {
	b, before := x.anyBytes(), x.pool
	if x.take(callLoad, impl.PoolLoad(x.pool, frame, page, b), plainPoolLoad(x.pool, frame, page, b)) {
		delete(x.fates, before.Frames[frame].Page)
		x.fates[page] = &pageFate{bytes: b}
	}
}

func (x *poolRun) pin(page int64) {
	if x.take(callPin, impl.PoolPin(x.pool, page), plainPin(x.pool, page, 1)) {
		x.fates[page].pins++
	}
}

func (x *poolRun) unpin(page int64) {
	if x.take(callUnpin, impl.PoolUnpin(x.pool, page), plainPin(x.pool, page, -1)) {
		x.fates[page].pins--
	}
}

func (x *poolRun) put(page int64) {
	b, lsn := x.anyBytes(), x.anyLSN()
	if x.take(callPut, impl.PoolPut(x.pool, page, b, lsn), plainPut(x.pool, page, b, lsn)) {
		f := x.fates[page]
		if f.bytes = b; !f.dirty {
			f.dirty, f.lsn = true, lsn
		}
	}
}

func (x *poolRun) clean(page int64) {
	if x.take(callClean, impl.PoolClean(x.pool, page), plainClean(x.pool, page)) {
		x.fates[page].dirty, x.fates[page].lsn = false, 0
	}
}

// check asks for each page whether it is as its calls left it.
func (x *poolRun) check() {
	x.t.Helper()
	if got := impl.PoolFault(x.pool); got != 0 {
		x.t.Fatalf("the pool has the fault %d: %+v", got, shortPool(x.pool))
	}
	for page := int64(-1); page <= 16; page++ {
		at, f := impl.PoolFind(x.pool, page), x.fates[page]
		if (f == nil) != (at == -1) {
			x.t.Fatalf("the page %d is found at %d", page, at)
		}
		if f == nil {
			continue
		}
		g := x.pool.Frames[at]
		if g.Page != page || !bytes.Equal(g.Bytes, f.bytes) || g.Pins != f.pins || g.Dirty != f.dirty || g.RecLSN != f.lsn {
			x.t.Fatalf("the page %d is %+v", page, shortPool(impl.Pool{Frames: []impl.Frame{g}}))
		}
	}
}

// TestManyPoolCalls has pools with few frames, so that all of them have pins now and then.
func TestManyPoolCalls(t *testing.T) {
	r := rand.New(rand.NewSource(73))
	codes := map[[2]int64]int{}
	for run := range int64(40) {
		frames := 1 + run%mostFrames
		x := &poolRun{t, r, impl.PoolNew(frames), map[int64]*pageFate{}, codes}
		unpins := r.Intn(3)
		for range 250 {
			page := r.Int63n(18) - 1
			switch kind := r.Intn(poolCallKinds + 2); {
			case kind == callLoad:
				x.load(r.Int63n(frames+2)-1, page)
			case kind == callPin:
				x.pin(page)
			case kind == callUnpin || kind >= poolCallKinds && unpins > 1:
				x.unpin(page)
			case kind == callPut:
				x.put(page)
			case kind == callClean:
				x.clean(page)
			default:
				x.victim()
			}
			x.check()
		}
	}
	for _, want := range [][2]int64{
		{callVictim, 0}, {callVictim, 2}, {callLoad, 0}, {callLoad, 2}, {callLoad, 3}, {callLoad, 4}, {callPin, 0}, {callPin, 2},
		{callUnpin, 0}, {callUnpin, 2}, {callUnpin, 3}, {callPut, 0}, {callPut, 2}, {callPut, 3}, {callClean, 0}, {callClean, 2},
	} {
		if codes[want] < 20 {
			t.Errorf("the call %d had the code %d %d times", want[0], want[1], codes[want])
		}
	}
}

// TestCallsOnAnyPool begins with pools that no calls led to.
func TestCallsOnAnyPool(t *testing.T) {
	r := rand.New(rand.NewSource(74))
	codes := map[[2]int64]int{}
	for range 1500 {
		x := &poolRun{t, r, anyPool(r), map[int64]*pageFate{}, codes}
		for _, f := range x.pool.Frames {
			if f.Page != -1 {
				x.fates[f.Page] = &pageFate{bytes.Clone(f.Bytes), f.Pins, f.Dirty, f.RecLSN}
			}
		}
		x.check()
		page := x.pool.Frames[r.Intn(len(x.pool.Frames))].Page
		calls := []func(page int64){x.pin, x.put, x.clean, x.unpin}
		for _, i := range r.Perm(len(calls)) {
			calls[i](page)
		}
		x.load(r.Int63n(int64(len(x.pool.Frames))), page)
		x.check()
	}
	if codes[[2]int64{callPin, 3}] < 20 || codes[[2]int64{callUnpin, 3}] < 20 || codes[[2]int64{callLoad, 0}] < 20 {
		t.Error("codes of calls:", codes)
	}
}
