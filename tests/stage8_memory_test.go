package tests

import (
	"math"
	"math/rand"
	"slices"
	"sync"
	"testing"

	"loop.example/s02544/impl"
)

// lockArgument has what the calls of chapter 8 take.
type lockArgument struct {
	name          string
	list          []impl.Lock
	txn, id, mode int64
}

// lockAnswer is the answer of any of them.
type lockAnswer struct {
	number int64
	result impl.LockResult
}

func (a lockArgument) copy() lockArgument {
	a.list = slices.Clone(a.list)
	return a
}

// roomy has a list that has something behind its end too.
func (a lockArgument) roomy() lockArgument {
	a.list = append(slices.Clone(a.list), lock(511, 77, 1), lock(511, 78, 1))[:len(a.list)]
	return a
}

// whole shows what stands behind the end of the list too.
func (a lockArgument) whole() []impl.Lock {
	return a.list[:cap(a.list)]
}

func scribbleLocks(list []impl.Lock, v int64) {
	list = list[:cap(list)]
	for i := range list {
		list[i] = lock(v, v, v)
	}
}

func (a lockAnswer) copy() lockAnswer {
	a.result.Locks = slices.Clone(a.result.Locks)
	return a
}

func (a lockAnswer) same(b lockAnswer) bool {
	return a.number == b.number && sameLockResult(a.result, b.result)
}

func lockCalls() map[string]func(a lockArgument) lockAnswer {
	return map[string]func(a lockArgument) lockAnswer{
		"LocksFault": func(a lockArgument) lockAnswer {
			return lockAnswer{number: impl.LocksFault(a.list)}
		},
		"LockMode": func(a lockArgument) lockAnswer {
			return lockAnswer{number: impl.LockMode(a.list, a.txn, a.id)}
		},
		"LockOthers": func(a lockArgument) lockAnswer {
			return lockAnswer{number: impl.LockOthers(a.list, a.txn, a.id)}
		},
		"LockAsk": func(a lockArgument) lockAnswer {
			return lockAnswer{result: impl.LockAsk(a.list, a.txn, a.id, a.mode)}
		},
		"LockFree": func(a lockArgument) lockAnswer {
			return lockAnswer{result: impl.LockFree(a.list, a.txn)}
		},
	}
}

func lockArguments() []lockArgument {
	var list []lockArgument
	for _, locks := range goodLocks() {
		list = append(list,
			lockArgument{"a good list, ahead of all", locks, 1, 0, 1},
			lockArgument{"a good list, behind all", locks, greatestTxn, 511, 2},
			lockArgument{"a good list, no holder", locks, 3, 100, 1},
			lockArgument{"a good list, the mode 0", locks, 1, 0, 0})
		for _, l := range locks[:min(len(locks), 6)] {
			list = append(list,
				lockArgument{"a lock that is held, in the same mode", locks, l.Txn, l.Id, l.Mode},
				lockArgument{"a lock that is held, in the other mode", locks, l.Txn, l.Id, 3 - l.Mode},
				lockArgument{"an id that is held by another", locks, l.Txn%greatestTxn + 1, l.Id, l.Mode})
		}
	}
	for _, locks := range faultyLocks() {
		list = append(list, lockArgument{"a faulty list", locks, 1, 2, 1})
	}
	for _, n := range []int64{-1, 0, 512, greatestTxn + 1, math.MaxInt64, math.MinInt64} {
		list = append(list, lockArgument{"numbers out of bounds", askedLocks(), n, n, n})
	}
	return append(list, lockArgument{name: "nothing"})
}

func TestLocksChangeNoArgument(t *testing.T) {
	for _, a := range lockArguments() {
		for name, call := range lockCalls() {
			given := a.roomy()
			before := slices.Clone(given.whole())
			first := call(given)
			kept := first.copy()
			scribbleLocks(first.result.Locks, 99)
			if !slices.Equal(given.whole(), before) {
				t.Fatal(name, "of", a.name, "changes an argument or answers its memory")
			}
			if !call(given).same(kept) || !call(a).same(kept) {
				t.Fatal(name, "of", a.name, "answers something else to the same arguments")
			}
		}
	}
}

func TestLocksOutliveTheArguments(t *testing.T) {
	for _, a := range lockArguments() {
		for name, call := range lockCalls() {
			given := a.copy().roomy()
			answer := call(given)
			kept := answer.copy()
			scribbleLocks(given.list, 98)
			scribbleLocks(call(a.copy()).result.Locks, 97)
			if !answer.same(kept) {
				t.Fatal(name, "of", a.name, "keeps memory of an argument or answers the same memory twice")
			}
		}
	}
}

// TestLocksHangOnTheArgumentsAlone makes each call often: a map is gone through in another order each time.
func TestLocksHangOnTheArgumentsAlone(t *testing.T) {
	arguments := lockArguments()
	for name, call := range lockCalls() {
		var want []lockAnswer
		for _, a := range arguments {
			want = append(want, call(a))
		}
		for range 3 {
			for i := len(arguments) - 1; i >= 0; i-- {
				if !call(arguments[i]).same(want[i]) {
					t.Fatal(name, "of", arguments[i].name, "answers something else behind other calls")
				}
			}
		}
	}
}

func TestLocksAtTheSameTime(t *testing.T) {
	calls, arguments := lockCalls(), lockArguments()
	want := map[string][]lockAnswer{}
	for name, call := range calls {
		for _, a := range arguments {
			want[name] = append(want[name], call(a))
		}
	}
	var all sync.WaitGroup
	var wrong [8]int64
	for i := range wrong {
		all.Go(func() {
			for name, call := range calls {
				for k, a := range arguments {
					if !call(a).same(want[name][k]) {
						wrong[i]++
					}
				}
			}
		})
	}
	all.Wait()
	if wrong != [8]int64{} {
		t.Error("calls that are made at the same time")
	}
}

func TestAnyArgumentsOfLocksAreAnswered(t *testing.T) {
	r := rand.New(rand.NewSource(88))
	numbers := []int64{math.MinInt64, math.MinInt64 + 1, -2, -1, 0, 1, 2, 3, 511, 512, greatestTxn, greatestTxn + 1, math.MaxInt64 - 1, math.MaxInt64}
	any := func() int64 { return numbers[r.Intn(len(numbers))] }
	for range 5000 {
		list := anyLocks(r)
		if r.Intn(2) == 0 {
			list = nil
			for range r.Intn(6) {
				list = append(list, lock(any(), any(), any()))
			}
		}
		a := lockArgument{"any", list, any(), any(), any()}
		got := []lockAnswer{lockCalls()["LocksFault"](a), lockCalls()["LockMode"](a), lockCalls()["LockOthers"](a), lockCalls()["LockAsk"](a), lockCalls()["LockFree"](a)}
		want := []lockAnswer{
			{number: plainLocksFault(list)},
			{number: plainLockMode(list, a.txn, a.id)},
			{number: plainLockOthers(list, a.txn, a.id)},
			{result: plainLockAsk(list, a.txn, a.id, a.mode)},
			{result: plainLockFree(list, a.txn)},
		}
		if !slices.EqualFunc(got, want, lockAnswer.same) {
			t.Fatal("the answers to", a, "are", got, "and not", want)
		}
	}
}
