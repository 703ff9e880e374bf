package tests

import (
	"math"
	"math/rand"
	"testing"

	"loop.example/s02544/impl"
)

func TestPoolConstants(t *testing.T) {
	if impl.MaxFrames != 16 {
		t.Error("the most frames")
	}
}

func TestPoolFaults(t *testing.T) {
	if got := impl.PoolFault(brokenPool()); got != 0 {
		t.Fatal("a pool without fault has the fault", got)
	}
	breaks := poolBreaks()
	for code := int64(1); code <= 5; code++ {
		for _, b := range breaks[code] {
			p := brokenPool()
			b.change(&p)
			if got := impl.PoolFault(p); got != code || plainPoolFault(p) != code {
				t.Errorf("%s, the fault %d, is told as %d: %+v", b.name, code, got, shortPool(p))
			}
			for later := code + 1; later <= 5; later++ {
				for _, c := range breaks[later] {
					both := brokenPool()
					c.change(&both)
					b.change(&both)
					if got := impl.PoolFault(both); got != code {
						t.Errorf("of %s (%d) and %s (%d) the pool tells %d", b.name, code, c.name, later, got)
					}
				}
			}
		}
	}
}

func TestPoolFaultAtTheBounds(t *testing.T) {
	for i, p := range goodPools() {
		if got := impl.PoolFault(p); got != 0 {
			t.Errorf("the pool %d without fault has the fault %d", i, got)
		}
	}
	many := func(n int64) []impl.Frame {
		var list []impl.Frame
		for i := range n {
			list = append(list, held(i))
		}
		return list
	}
	with := func(change func(f *impl.Frame)) impl.Pool {
		f := held(3)
		change(&f)
		return poolOf(0, f)
	}
	empty := func(change func(f *impl.Frame)) impl.Pool {
		f := emptyFrame()
		change(&f)
		return poolOf(0, f)
	}
	for _, c := range []struct {
		name string
		pool impl.Pool
		want int64
	}{
		{"no frames", impl.Pool{}, 1},
		{"a frame", poolOf(0, many(1)...), 0},
		{"16 frames", poolOf(0, many(16)...), 0},
		{"17 frames", poolOf(0, append(many(16), emptyFrame())...), 1},
		{"the hand at -1", poolOf(-1, many(4)...), 2},
		{"the hand at the last frame", poolOf(3, many(4)...), 0},
		{"the hand behind the last frame", poolOf(4, many(4)...), 2},
		{"the hand at the last frame of 16", poolOf(15, many(16)...), 0},
		{"the hand behind the last frame of 16", poolOf(16, many(16)...), 2},
		{"the hand far behind", poolOf(math.MaxInt64, many(1)...), 2},
		{"the hand far ahead", poolOf(math.MinInt64, many(1)...), 2},
		{"a frame without page", empty(func(f *impl.Frame) {}), 0},
		{"an empty list of bytes", empty(func(f *impl.Frame) { f.Bytes = []byte{} }), 0},
		{"bytes alone", empty(func(f *impl.Frame) { f.Bytes = []byte{0} }), 3},
		{"pins alone", empty(func(f *impl.Frame) { f.Pins = 1 }), 3},
		{"dirty alone", empty(func(f *impl.Frame) { f.Dirty = true }), 3},
		{"an LSN alone", empty(func(f *impl.Frame) { f.RecLSN = 1 }), 3},
		{"a mark alone", empty(func(f *impl.Frame) { f.Ref = true }), 3},
		{"the page -2", with(func(f *impl.Frame) { f.Page = -2 }), 3},
		{"the page -2 without anything", empty(func(f *impl.Frame) { f.Page = -2 }), 3},
		{"the page -1 with bytes", with(func(f *impl.Frame) { f.Page = -1 }), 3},
		{"the page 0", with(func(f *impl.Frame) { f.Page = 0 }), 0},
		{"the page 0 without anything", impl.Pool{Frames: make([]impl.Frame, 1)}, 3},
		{"the page 15", with(func(f *impl.Frame) { f.Page = 15 }), 0},
		{"the page 16", with(func(f *impl.Frame) { f.Page = 16 }), 3},
		{"a byte less", with(func(f *impl.Frame) { f.Bytes = f.Bytes[1:] }), 3},
		{"a byte more", with(func(f *impl.Frame) { f.Bytes = append(f.Bytes, 1) }), 3},
		{"a pin less than none", with(func(f *impl.Frame) { f.Pins = -1 }), 3},
		{"a pin", with(func(f *impl.Frame) { f.Pins = 1 }), 0},
		{"the most pins", with(func(f *impl.Frame) { f.Pins = mostPins }), 0},
		{"one pin more", with(func(f *impl.Frame) { f.Pins = mostPins + 1 }), 3},
		{"dirty by 0", with(func(f *impl.Frame) { f.Dirty = true }), 4},
		{"dirty by -1", with(func(f *impl.Frame) { f.Dirty, f.RecLSN = true, -1 }), 4},
		{"dirty by 1", with(func(f *impl.Frame) { f.Dirty, f.RecLSN = true, 1 }), 0},
		{"dirty by the greatest LSN", with(func(f *impl.Frame) { f.Dirty, f.RecLSN = true, greatestLSN }), 0},
		{"dirty by one more", with(func(f *impl.Frame) { f.Dirty, f.RecLSN = true, greatestLSN+1 }), 4},
		{"clean by 1", with(func(f *impl.Frame) { f.RecLSN = 1 }), 4},
		{"clean by -1", with(func(f *impl.Frame) { f.RecLSN = -1 }), 4},
		{"a page twice, next to each other", poolOf(0, held(1), held(2), held(2)), 5},
		{"a page twice, apart", poolOf(0, held(2), held(1), emptyFrame(), held(2)), 5},
		{"a page twice with other bytes", poolOf(0, held(2), impl.Frame{Page: 2, Bytes: poolBytes(9)}), 5},
		{"no page twice", poolOf(0, emptyFrame(), held(2), emptyFrame()), 0},
		{"the same bytes twice", poolOf(0, held(2), impl.Frame{Page: 1, Bytes: poolBytes(2)}), 0},
		{"the fault 4 ahead of the fault 3", poolOf(0, dirty(2, 0), pinned(3, -1)), 3},
		{"the fault 5 ahead of the fault 4", poolOf(0, held(2), held(2), dirty(3, 0)), 4},
		{"the fault 5 ahead of the fault 3", poolOf(0, held(2), held(2), held(16)), 3},
	} {
		if got := impl.PoolFault(c.pool); got != c.want {
			t.Errorf("%s: the fault %d and not %d", c.name, got, c.want)
		}
		if got := plainPoolFault(c.pool); got != c.want {
			t.Errorf("%s: the test's own answer is %d", c.name, got)
		}
	}
}

func TestPoolNew(t *testing.T) {
	for n := int64(1); n <= mostFrames; n++ {
		p := impl.PoolNew(n)
		if int64(len(p.Frames)) != n || p.Hand != 0 || impl.PoolFault(p) != 0 {
			t.Fatalf("%d frames: %+v", n, p)
		}
		for _, f := range p.Frames {
			if !sameFrame(f, emptyFrame()) {
				t.Fatalf("%d frames, one of them %+v", n, f)
			}
		}
	}
	for _, n := range []int64{0, -1, 17, 18, -16, 256, 1 << 32, 1<<32 + 1, math.MaxInt64, math.MinInt64, math.MinInt64 + 1} {
		if p := impl.PoolNew(n); len(p.Frames) != 0 || p.Hand != 0 {
			t.Errorf("%d frames: %+v", n, p)
		}
	}
}

func TestPoolFind(t *testing.T) {
	p := poolOf(2, held(5), emptyFrame(), lit(dirty(0, 700)), pinned(15, 2), emptyFrame())
	for page, want := range map[int64]int64{
		5: 0, 0: 2, 15: 3, 1: -1, 14: -1, -1: -1, -2: -1, 16: -1, 4: -1, math.MaxInt64: -1, math.MinInt64: -1, 1<<32 + 5: -1,
	} {
		if got := impl.PoolFind(p, page); got != want {
			t.Errorf("the page %d is found at %d and not at %d", page, got, want)
		}
	}
	for _, p := range goodPools() {
		for page := int64(-3); page < 20; page++ {
			if got := impl.PoolFind(p, page); got != plainFind(p, page) {
				t.Errorf("the page %d is found at %d: %+v", page, got, shortPool(p))
			}
		}
	}
	for _, p := range faultyPools() {
		for page := int64(-3); page < 20; page++ {
			if got := impl.PoolFind(p, page); got != -1 {
				t.Errorf("the page %d is found at %d in a faulty pool: %+v", page, got, shortPool(p))
			}
		}
	}
}

func TestAnyPoolHasThePlainFault(t *testing.T) {
	r := rand.New(rand.NewSource(71))
	numbers := []int64{math.MinInt64, -2, -1, 0, 1, 2, 15, 16, mostPins, mostPins + 1, greatestLSN, greatestLSN + 1, math.MaxInt64}
	seen := map[int64]int{}
	for range 6000 {
		p := anyPool(r)
		if got := impl.PoolFault(p); got != 0 {
			t.Fatalf("the fault %d: %+v", got, shortPool(p))
		}
		for range r.Intn(3) {
			f := &p.Frames[r.Intn(len(p.Frames))]
			switch r.Intn(6) {
			case 0:
				f.Bytes = poolBytes(1)[:r.Intn(3)*2048]
			case 1:
				f.Dirty = !f.Dirty
			case 2:
				f.Page = p.Frames[r.Intn(len(p.Frames))].Page
			default:
				*[]*int64{&p.Hand, &f.Page, &f.Pins, &f.RecLSN}[r.Intn(4)] = numbers[r.Intn(len(numbers))]
			}
		}
		want := plainPoolFault(p)
		if got := impl.PoolFault(p); got != want {
			t.Fatalf("the fault %d and not %d: %+v", got, want, shortPool(p))
		}
		seen[want]++
	}
	for _, code := range []int64{0, 2, 3, 4, 5} {
		if seen[code] < 50 {
			t.Error("the fault", code, "was seen", seen[code], "times")
		}
	}
}
