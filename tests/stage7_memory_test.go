package tests

import (
	"bytes"
	"math"
	"math/rand"
	"slices"
	"sync"
	"testing"

	"loop.example/s02544/impl"
)

// poolArgument has what the calls of chapter 7 take.
type poolArgument struct {
	name  string
	pool  impl.Pool
	frame int64
	page  int64
	bytes []byte
	lsn   int64
}

// poolAnswer is the answer of any of them.
type poolAnswer struct {
	number int64
	result impl.PoolResult
}

func (a poolArgument) copy() poolArgument {
	a.pool = copyPool(a.pool)
	a.bytes = append([]byte(nil), a.bytes...)
	return a
}

// roomy has lists that have something behind their ends too.
func (a poolArgument) roomy() poolArgument {
	frames := append(copyPool(a.pool).Frames, held(2), dirty(4, 77))
	for i := range frames {
		frames[i].Bytes = roomy(frames[i].Bytes)
	}
	a.pool.Frames = frames[:len(a.pool.Frames)]
	a.bytes = roomy(a.bytes)
	return a
}

// whole shows what stands behind the ends of the lists too.
func (a poolArgument) whole() poolArgument {
	frames := slices.Clone(a.pool.Frames[:cap(a.pool.Frames)])
	for i, f := range frames {
		frames[i].Bytes = f.Bytes[:cap(f.Bytes)]
	}
	a.pool.Frames = frames
	a.bytes = a.bytes[:cap(a.bytes)]
	return a
}

func (a poolArgument) same(b poolArgument) bool {
	return samePool(a.pool, b.pool) && bytes.Equal(a.bytes, b.bytes)
}

func scribblePool(p impl.Pool, v byte) {
	frames := p.Frames[:cap(p.Frames)]
	for i, f := range frames {
		scribble(f.Bytes, v)
		frames[i] = impl.Frame{Page: int64(v), Pins: int64(v), Dirty: true, RecLSN: int64(v), Ref: true}
	}
}

func (a poolArgument) scribble(v byte) {
	scribblePool(a.pool, v)
	scribble(a.bytes, v)
}

func (a poolAnswer) copy() poolAnswer {
	a.result.Pool = copyPool(a.result.Pool)
	return a
}

func (a poolAnswer) same(b poolAnswer) bool {
	return a.number == b.number && sameResult(a.result, b.result)
}

func poolCalls() map[string]func(a poolArgument) poolAnswer {
	return map[string]func(a poolArgument) poolAnswer{
		"PoolFault": func(a poolArgument) poolAnswer {
			return poolAnswer{number: impl.PoolFault(a.pool)}
		},
		"PoolNew": func(a poolArgument) poolAnswer {
			return poolAnswer{result: impl.PoolResult{Pool: impl.PoolNew(a.page)}}
		},
		"PoolFind": func(a poolArgument) poolAnswer {
			return poolAnswer{number: impl.PoolFind(a.pool, a.page)}
		},
		"PoolVictim": func(a poolArgument) poolAnswer {
			return poolAnswer{result: impl.PoolVictim(a.pool)}
		},
		"PoolLoad": func(a poolArgument) poolAnswer {
			return poolAnswer{result: impl.PoolLoad(a.pool, a.frame, a.page, a.bytes)}
		},
		"PoolPin": func(a poolArgument) poolAnswer {
			return poolAnswer{result: impl.PoolPin(a.pool, a.page)}
		},
		"PoolUnpin": func(a poolArgument) poolAnswer {
			return poolAnswer{result: impl.PoolUnpin(a.pool, a.page)}
		},
		"PoolPut": func(a poolArgument) poolAnswer {
			return poolAnswer{result: impl.PoolPut(a.pool, a.page, a.bytes, a.lsn)}
		},
		"PoolClean": func(a poolArgument) poolAnswer {
			return poolAnswer{result: impl.PoolClean(a.pool, a.page)}
		},
	}
}

// sharedPool has all pages in one array, and the bytes of two frames in one place.
func sharedPool() impl.Pool {
	all := bytes.Join([][]byte{poolBytes(1), poolBytes(2), poolBytes(3)}, nil)
	p := poolOf(1, held(1), pinned(2, 1), dirty(3, 700), held(4))
	for i, at := range []int{0, 1, 2, 1} {
		p.Frames[i].Bytes = all[at*pageSize : (at+1)*pageSize]
	}
	return p
}

func poolArguments() []poolArgument {
	var list []poolArgument
	for i, p := range goodPools() {
		list = append(list, poolArgument{"a good pool", p, int64(i % 2), int64(i), poolBytes(300), 700})
		for k, f := range p.Frames {
			list = append(list, poolArgument{"a page that is held", p, int64(k), f.Page, poolBytes(301), 701})
		}
	}
	shared := sharedPool()
	for k, f := range shared.Frames {
		list = append(list,
			poolArgument{"shared pages", shared, int64(k), f.Page, shared.Frames[0].Bytes, 702},
			poolArgument{"shared pages, a page more", shared, int64(k), 9, shared.Frames[1].Bytes, 702})
	}
	good := list[0]
	for _, p := range faultyPools() {
		a := good
		a.name, a.pool, a.page = "a faulty pool", p, 5
		list = append(list, a)
	}
	for _, page := range []int64{-1, 16, math.MaxInt64, math.MinInt64} {
		a := good
		a.name, a.page, a.frame, a.lsn, a.bytes = "numbers out of bounds", page, page, page, a.bytes[:100]
		list = append(list, a)
	}
	return append(list, poolArgument{name: "nothing"})
}

func TestPoolsChangeNoArgument(t *testing.T) {
	for _, a := range poolArguments() {
		for name, call := range poolCalls() {
			given := a.roomy()
			before := given.whole().copy()
			first := call(given)
			kept := first.copy()
			scribblePool(first.result.Pool, 99)
			if !given.whole().same(before) {
				t.Fatal(name, "of", a.name, "changes an argument or answers its memory")
			}
			if !call(given).same(kept) || !call(a).same(kept) {
				t.Fatal(name, "of", a.name, "answers something else to the same arguments")
			}
		}
	}
}

func TestPoolsOutliveTheArguments(t *testing.T) {
	for _, a := range poolArguments() {
		for name, call := range poolCalls() {
			given := a.copy().roomy()
			answer := call(given)
			kept := answer.copy()
			given.scribble(98)
			scribblePool(call(a.copy()).result.Pool, 97)
			if !answer.same(kept) {
				t.Fatal(name, "of", a.name, "keeps memory of an argument or answers the same memory twice")
			}
		}
	}
}

// TestPagesOfOneAnswerShareNothing fills each page of an answer, and what stands behind its end, with a byte of its own.
func TestPagesOfOneAnswerShareNothing(t *testing.T) {
	for _, a := range poolArguments() {
		for name, call := range poolCalls() {
			frames := call(a).result.Pool.Frames
			for i, f := range frames {
				scribble(f.Bytes, byte(i+1))
			}
			for i, f := range frames {
				whole := f.Bytes[:cap(f.Bytes)]
				if bytes.Count(whole, []byte{byte(i + 1)}) != len(whole) {
					t.Fatal(name, "of", a.name, "has two pages in one place")
				}
			}
		}
	}
}

func TestPoolsHangOnTheArgumentsAlone(t *testing.T) {
	arguments := poolArguments()
	for name, call := range poolCalls() {
		var want []poolAnswer
		for _, a := range arguments {
			want = append(want, call(a))
		}
		for i := len(arguments) - 1; i >= 0; i-- {
			if !call(arguments[i]).same(want[i]) {
				t.Fatal(name, "of", arguments[i].name, "answers something else behind other calls")
			}
		}
	}
}

func TestPoolsAtTheSameTime(t *testing.T) {
	calls, arguments := poolCalls(), poolArguments()
	want := map[string][]poolAnswer{}
	for name, call := range calls {
		for _, a := range arguments {
			want[name] = append(want[name], call(a))
		}
	}
	var all sync.WaitGroup
	var wrong [8]int64
	for i := range wrong {
		all.Go(func() {
			for name, call := range calls {
				for k, a := range arguments {
					if !call(a).same(want[name][k]) {
						wrong[i]++
					}
				}
			}
		})
	}
	all.Wait()
	if wrong != [8]int64{} {
		t.Error("calls that are made at the same time")
	}
}

func TestAnyArgumentsOfPoolsAreAnswered(t *testing.T) {
	r := rand.New(rand.NewSource(75))
	numbers := []int64{math.MinInt64, math.MinInt64 + 1, -2, -1, 0, 1, 2, 15, 16, 17, mostPins, mostPins + 1, greatestLSN, greatestLSN + 1, math.MaxInt64 - 1, math.MaxInt64}
	any := func() int64 { return numbers[r.Intn(len(numbers))] }
	lengths := []int{0, 1, 4095, 4096, 4097}
	for range 3000 {
		p := impl.Pool{Hand: any()}
		for range r.Intn(18) {
			f := impl.Frame{Page: any(), Bytes: make([]byte, lengths[r.Intn(len(lengths))]), Pins: any(), Dirty: r.Intn(2) == 0, RecLSN: any(), Ref: r.Intn(2) == 0}
			p.Frames = append(p.Frames, f)
		}
		if r.Intn(2) == 0 {
			p = anyPool(r)
		}
		a := poolArgument{pool: p, frame: any(), page: any(), bytes: make([]byte, lengths[r.Intn(len(lengths))]), lsn: any()}
		for _, call := range poolCalls() {
			call(a)
		}
	}
}
