package tests

import (
	"math/rand"
	"testing"

	"loop.example/s02544/impl"
)

func TestPoolVictim(t *testing.T) {
	for _, c := range []struct {
		name string
		pool impl.Pool
		want impl.PoolResult
	}{
		{"a frame without page", poolOf(0, emptyFrame()),
			impl.PoolResult{Pool: poolOf(0, emptyFrame())}},
		{"the first without page, not the first behind the hand", poolOf(2, held(1), emptyFrame(), held(2), emptyFrame()),
			impl.PoolResult{Frame: 1, Pool: poolOf(2, held(1), emptyFrame(), held(2), emptyFrame())}},
		{"one without page at the end, the marks stay", poolOf(1, held(1), lit(held(2)), pinned(3, 1), emptyFrame()),
			impl.PoolResult{Frame: 3, Pool: poolOf(1, held(1), lit(held(2)), pinned(3, 1), emptyFrame())}},
		{"one without page beside pins alone", poolOf(0, pinned(1, 1), emptyFrame(), pinned(2, 1)),
			impl.PoolResult{Frame: 1, Pool: poolOf(0, pinned(1, 1), emptyFrame(), pinned(2, 1))}},
		{"the frame at the hand", poolOf(1, held(1), held(2), held(3)),
			impl.PoolResult{Frame: 1, Pool: poolOf(2, held(1), held(2), held(3))}},
		{"the last frame: the hand stands at 0", poolOf(2, held(1), held(2), held(3)),
			impl.PoolResult{Frame: 2, Pool: poolOf(0, held(1), held(2), held(3))}},
		{"the only frame", poolOf(0, held(1)),
			impl.PoolResult{Pool: poolOf(0, held(1))}},
		{"the only frame, with its mark on", poolOf(0, lit(held(1))),
			impl.PoolResult{Pool: poolOf(0, held(1))}},
		{"a mark is taken off", poolOf(0, lit(held(1)), held(2), lit(held(3))),
			impl.PoolResult{Frame: 1, Pool: poolOf(2, held(1), held(2), lit(held(3)))}},
		{"marks ahead of the hand stay", poolOf(1, lit(held(1)), held(2), held(3)),
			impl.PoolResult{Frame: 1, Pool: poolOf(2, lit(held(1)), held(2), held(3))}},
		{"round the end", poolOf(2, held(1), held(2), lit(held(3))),
			impl.PoolResult{Frame: 0, Pool: poolOf(1, held(1), held(2), held(3))}},
		{"more than once round", poolOf(1, lit(held(1)), lit(held(2)), lit(held(3))),
			impl.PoolResult{Frame: 1, Pool: poolOf(2, held(1), held(2), held(3))}},
		{"more than once round, from the last", poolOf(2, lit(held(1)), lit(held(2)), lit(held(3))),
			impl.PoolResult{Frame: 2, Pool: poolOf(0, held(1), held(2), held(3))}},
		{"pins are passed over", poolOf(0, pinned(1, 1), pinned(2, mostPins), held(3)),
			impl.PoolResult{Frame: 2, Pool: poolOf(0, pinned(1, 1), pinned(2, mostPins), held(3))}},
		{"the mark of a frame with pins stays", poolOf(0, lit(pinned(1, 1)), lit(held(2)), held(3)),
			impl.PoolResult{Frame: 2, Pool: poolOf(0, lit(pinned(1, 1)), held(2), held(3))}},
		{"more than once round over pins", poolOf(1, lit(held(1)), lit(pinned(2, 1)), lit(held(3)), pinned(4, 2)),
			impl.PoolResult{Frame: 2, Pool: poolOf(3, held(1), lit(pinned(2, 1)), held(3), pinned(4, 2))}},
		{"the last possible step", poolOf(1, lit(held(1)), pinned(2, 1), pinned(3, 1)),
			impl.PoolResult{Frame: 0, Pool: poolOf(1, held(1), pinned(2, 1), pinned(3, 1))}},
		{"a dirty frame stays dirty", poolOf(0, lit(dirty(1, 700)), lit(dirty(2, 701))),
			impl.PoolResult{Frame: 0, Pool: poolOf(1, dirty(1, 700), dirty(2, 701))}},
		{"all have pins", poolOf(1, pinned(1, 1), pinned(2, 1), pinned(3, mostPins)),
			impl.PoolResult{Code: 2}},
		{"all have pins and marks", poolOf(2, lit(pinned(1, 1)), pinned(2, 1), lit(pinned(3, 2))),
			impl.PoolResult{Code: 2}},
		{"the only frame has pins", poolOf(0, lit(pinned(1, 1))),
			impl.PoolResult{Code: 2}},
		{"the only frame has a pin, its mark off", poolOf(0, pinned(0, 1)),
			impl.PoolResult{Code: 2}},
		{"all have pins, one is dirty", poolOf(1, lit(pinned(1, 1)), impl.Frame{Page: 2, Bytes: poolBytes(2), Pins: 1, Dirty: true, RecLSN: 700}),
			impl.PoolResult{Code: 2}},
	} {
		if got := impl.PoolVictim(c.pool); !sameResult(got, c.want) {
			t.Errorf("%s: %+v", c.name, shortResult(got))
		}
		if got := plainVictim(c.pool); !sameResult(got, c.want) {
			t.Errorf("%s: the test's own answer is %+v", c.name, shortResult(got))
		}
	}
	for _, p := range faultyPools() {
		if got := impl.PoolVictim(p); !sameResult(got, impl.PoolResult{Code: 1}) {
			t.Errorf("a faulty pool: %+v", shortResult(got))
		}
	}
}

// TestVictimsOfAllSmallPools has each choice of marks and pins, and each place of the hand.
func TestVictimsOfAllSmallPools(t *testing.T) {
	kinds := []func(page int64) impl.Frame{
		held,
		func(page int64) impl.Frame { return lit(held(page)) },
		func(page int64) impl.Frame { return pinned(page, 1) },
		func(page int64) impl.Frame { return lit(pinned(page, 1)) },
	}
	for n := 1; n <= 4; n++ {
		for choice := range 1 << (2 * n) {
			for hand := range int64(n) {
				p := impl.Pool{Hand: hand}
				free := 0
				for i := range n {
					kind := choice >> (2 * i) & 3
					p.Frames = append(p.Frames, kinds[kind](int64(i)))
					if kind < 2 {
						free++
					}
				}
				got := impl.PoolVictim(p)
				if !sameResult(got, plainVictim(p)) {
					t.Fatalf("%+v: %+v", shortPool(p), shortResult(got))
				}
				if (got.Code == 0) != (free > 0) || got.Code == 0 && p.Frames[got.Frame].Pins != 0 {
					t.Fatalf("%d frames without pins: %+v", free, shortResult(got))
				}
			}
		}
	}
}

// TestNoVictimAndNoPool: beside a code all else is zero, so where all frames
// have pins neither marks nor the hand nor a frame are told.
func TestNoVictimAndNoPool(t *testing.T) {
	for n := 1; n <= mostFrames; n++ {
		for _, marks := range []int{0, 1, 1 << (n - 1), 0x5555, 0xaaaa, 0xffff} {
			for hand := range int64(n) {
				p := impl.Pool{Hand: hand}
				for i := range n {
					f := pinned(int64(15-i), []int64{1, 2, mostPins}[i%3])
					f.Ref = marks>>i&1 == 1
					if f.Dirty = i%4 == 1; f.Dirty {
						f.RecLSN = 600 + int64(i)
					}
					p.Frames = append(p.Frames, f)
				}
				got := impl.PoolVictim(p)
				if got.Code != 2 || got.Frame != 0 || len(got.Pool.Frames) != 0 || got.Pool.Hand != 0 {
					t.Fatalf("%+v: %+v", shortPool(p), shortResult(got))
				}
				// One pin less, and there is a victim again.
				p.Frames[n-1].Pins = 0
				if got := impl.PoolVictim(p); got.Code != 0 || got.Frame != int64(n-1) || len(got.Pool.Frames) != n {
					t.Fatalf("%+v: %+v", shortPool(p), shortResult(got))
				}
			}
		}
	}
}

func TestAnyVictimIsThePlainOne(t *testing.T) {
	r := rand.New(rand.NewSource(72))
	seen := map[int64]int{}
	for range 4000 {
		p := anyPool(r)
		got := impl.PoolVictim(p)
		if !sameResult(got, plainVictim(p)) {
			t.Fatalf("%+v: %+v", shortPool(p), shortResult(got))
		}
		seen[got.Code]++
	}
	if seen[0] < 1000 || seen[2] < 50 {
		t.Error("codes of victims:", seen)
	}
}

// TestVictimsGoRound: with the marks off, each frame comes once before one comes twice.
func TestVictimsGoRound(t *testing.T) {
	for n := int64(1); n <= mostFrames; n++ {
		p := impl.PoolNew(n)
		for page := range n {
			v := impl.PoolVictim(p)
			if v.Code != 0 || v.Frame != page || v.Pool.Hand != 0 {
				t.Fatalf("of %d empty frames, with %d pages: %+v", n, page, shortResult(v))
			}
			p = impl.PoolLoad(v.Pool, v.Frame, page, poolBytes(page)).Pool
		}
		for i := range 3 * n {
			v := impl.PoolVictim(p)
			if v.Code != 0 || v.Frame != i%n || v.Pool.Hand != (i+1)%n {
				t.Fatalf("of %d frames, round %d: %+v", n, i, shortResult(v))
			}
			p = v.Pool
		}
	}
}
