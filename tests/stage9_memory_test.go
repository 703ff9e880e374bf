package tests

import (
	"math"
	"math/rand"
	"slices"
	"sync"
	"testing"

	"loop.example/s02544/impl"
)

// ledgerArgument has what the calls of chapter 9 take: its numbers are for LogFree.
type ledgerArgument struct {
	name                string
	g                   impl.Geometry
	numbers             [4]int64
	lengths             []int64
	holds               []impl.Hold
	locks               []impl.Lock
	txn, id, page       int64
	before, after, long int64
}

// ledgerAnswer is the answer of any of them.
type ledgerAnswer struct {
	number int64
	truth  bool
	holds  []impl.Hold
}

func (a ledgerArgument) copy() ledgerArgument {
	a.lengths, a.holds, a.locks = slices.Clone(a.lengths), slices.Clone(a.holds), slices.Clone(a.locks)
	return a
}

// roomy has lists that have something behind their ends too.
func (a ledgerArgument) roomy() ledgerArgument {
	a.lengths = append(slices.Clone(a.lengths), 77, 78)[:len(a.lengths)]
	a.holds = append(slices.Clone(a.holds), hold(511, 77, 1), hold(511, 78, 1))[:len(a.holds)]
	a.locks = append(slices.Clone(a.locks), lock(511, 77, 1), lock(511, 78, 1))[:len(a.locks)]
	return a
}

// sameWhole holds what stands behind the ends of the lists against each other too.
func (a ledgerArgument) sameWhole(b ledgerArgument) bool {
	return slices.Equal(a.lengths[:cap(a.lengths)], b.lengths[:cap(a.lengths)]) && slices.Equal(a.holds[:cap(a.holds)], b.holds[:cap(a.holds)]) &&
		slices.Equal(a.locks[:cap(a.locks)], b.locks[:cap(a.locks)])
}

// wholeCopy keeps what stands behind the ends too.
func (a ledgerArgument) wholeCopy() ledgerArgument {
	a.lengths = slices.Clone(a.lengths[:cap(a.lengths)])
	a.holds = slices.Clone(a.holds[:cap(a.holds)])
	a.locks = slices.Clone(a.locks[:cap(a.locks)])
	return a
}

func (a ledgerArgument) scribble(v int64) {
	for i := range a.lengths[:cap(a.lengths)] {
		a.lengths[:cap(a.lengths)][i] = v
	}
	scribbleHolds(a.holds, v)
	scribbleLocks(a.locks, v)
}

func scribbleHolds(holds []impl.Hold, v int64) {
	holds = holds[:cap(holds)]
	for i := range holds {
		holds[i] = hold(v, v, v)
	}
}

func (a ledgerAnswer) copy() ledgerAnswer {
	a.holds = slices.Clone(a.holds)
	return a
}

func (a ledgerAnswer) same(b ledgerAnswer) bool {
	return a.number == b.number && a.truth == b.truth && slices.Equal(a.holds, b.holds)
}

func ledgerCalls() map[string]func(a ledgerArgument) ledgerAnswer {
	return map[string]func(a ledgerArgument) ledgerAnswer{
		"MinLog": func(a ledgerArgument) ledgerAnswer {
			return ledgerAnswer{number: impl.MinLog(a.g.Pages)}
		},
		"GeometryFault": func(a ledgerArgument) ledgerAnswer {
			return ledgerAnswer{number: impl.GeometryFault(a.g)}
		},
		"CheckpointSize": func(a ledgerArgument) ledgerAnswer {
			return ledgerAnswer{number: impl.CheckpointSize(a.g.Pages)}
		},
		"LogFree": func(a ledgerArgument) ledgerAnswer {
			return ledgerAnswer{number: impl.LogFree(a.g, a.numbers[0], a.numbers[1], a.numbers[2], a.numbers[3])}
		},
		"HoldsFault": func(a ledgerArgument) ledgerAnswer {
			return ledgerAnswer{number: impl.HoldsFault(a.holds)}
		},
		"HoldTake": func(a ledgerArgument) ledgerAnswer {
			return ledgerAnswer{holds: impl.HoldTake(a.holds, a.txn, a.id, a.before, a.after)}
		},
		"HoldFree": func(a ledgerArgument) ledgerAnswer {
			return ledgerAnswer{holds: impl.HoldFree(a.holds, a.txn)}
		},
		"RoomLeft": func(a ledgerArgument) ledgerAnswer {
			return ledgerAnswer{number: impl.RoomLeft(a.lengths, a.holds, a.page)}
		},
		"RoomFor": func(a ledgerArgument) ledgerAnswer {
			return ledgerAnswer{truth: impl.RoomFor(a.lengths, a.holds, a.id, a.long)}
		},
		"FreshId": func(a ledgerArgument) ledgerAnswer {
			return ledgerAnswer{number: impl.FreshId(a.lengths, a.holds, a.locks, a.txn, a.long)}
		},
	}
}

// plainLedger answers as the calls do, by the test's own writing of the chapter.
func plainLedger(a ledgerArgument) map[string]ledgerAnswer {
	room, _ := plainRoom(a.lengths, a.holds, a.page)
	least, checkpoint := int64(-1), int64(-1)
	if a.g.Pages >= 1 && a.g.Pages <= mostPages {
		least, checkpoint = 24+9*a.g.Pages, 240+10*a.g.Pages
	}
	return map[string]ledgerAnswer{
		"MinLog":         {number: least},
		"GeometryFault":  {number: plainGeometryFault(a.g)},
		"CheckpointSize": {number: checkpoint},
		"LogFree":        {number: plainLogFree(a.g, a.numbers[0], a.numbers[1], a.numbers[2], a.numbers[3])},
		"HoldsFault":     {number: plainHoldsFault(a.holds)},
		"HoldTake":       {holds: plainTake(a.holds, a.txn, a.id, a.before, a.after)},
		"HoldFree":       {holds: plainGiveUp(a.holds, a.txn)},
		"RoomLeft":       {number: room},
		"RoomFor":        {truth: plainRoomFor(a.lengths, a.holds, a.id, a.long)},
		"FreshId":        {number: plainFresh(a.lengths, a.holds, a.locks, a.txn, a.long)},
	}
}

func ledgerArguments() []ledgerArgument {
	g := impl.Geometry{Pages: 2, Frames: 4, LogSectors: 50}
	base := ledgerArgument{"common", g, [4]int64{700, 512, 1, 90}, lengthsOf(2, 5, -1, 700, 0), holdsOf(hold(1, 2, 9), hold(30, 1, 8), hold(33, 2, 7)), locksOf(lock(0, 1, 2), lock(4, 2, 1)), 2, 4, 1, 5, 6, 100}
	list := []ledgerArgument{base, {name: "nothing"}}
	for _, holds := range slices.Concat(goodHolds(), faultyHolds()) {
		for _, id := range []int64{0, 2, 4, 511} {
			for _, txn := range []int64{1, 7, 99} {
				a := base
				a.name, a.holds, a.id, a.txn = "other holds", holds, id, txn
				list = append(list, a)
			}
		}
	}
	for _, lengths := range slices.Concat(goodLengths(), faultyLengths()) {
		a := base
		a.name, a.lengths = "other lengths", lengths
		list = append(list, a)
	}
	for _, locks := range append(faultyLocks(), goodLocks()[3:5]...) {
		a := base
		a.name, a.locks = "other locks", locks
		list = append(list, a)
	}
	for _, n := range []int64{-1, 0, 16, 512, 1001, greatestTxn + 1, math.MaxInt64, math.MinInt64} {
		a := base
		a.name, a.g, a.numbers = "numbers out of bounds", impl.Geometry{Pages: n, Frames: n, LogSectors: n}, [4]int64{n, n, n, n}
		a.txn, a.id, a.page, a.before, a.after, a.long = n, n, n, n, n, n
		list = append(list, a)
	}
	return list
}

func TestLedgerChangesNoArgument(t *testing.T) {
	for _, a := range ledgerArguments() {
		for name, call := range ledgerCalls() {
			given := a.roomy()
			before := given.wholeCopy()
			first := call(given)
			kept := first.copy()
			scribbleHolds(first.holds, 99)
			if !given.sameWhole(before) {
				t.Fatal(name, "of", a.name, "changes an argument or answers its memory")
			}
			if !call(given).same(kept) || !call(a).same(kept) {
				t.Fatal(name, "of", a.name, "answers something else to the same arguments")
			}
		}
	}
}

func TestLedgerOutlivesTheArguments(t *testing.T) {
	for _, a := range ledgerArguments() {
		for name, call := range ledgerCalls() {
			given := a.copy().roomy()
			answer := call(given)
			kept := answer.copy()
			given.scribble(98)
			scribbleHolds(call(a.copy()).holds, 97)
			if !answer.same(kept) {
				t.Fatal(name, "of", a.name, "keeps memory of an argument or answers the same memory twice")
			}
		}
	}
}

func TestLedgerHangsOnTheArgumentsAlone(t *testing.T) {
	arguments := ledgerArguments()
	for name, call := range ledgerCalls() {
		var want []ledgerAnswer
		for _, a := range arguments {
			want = append(want, call(a))
		}
		for range 3 {
			for i := len(arguments) - 1; i >= 0; i-- {
				if !call(arguments[i]).same(want[i]) {
					t.Fatal(name, "of", arguments[i].name, "answers something else behind other calls")
				}
			}
		}
	}
}

func TestLedgerAtTheSameTime(t *testing.T) {
	calls, arguments := ledgerCalls(), ledgerArguments()
	want := map[string][]ledgerAnswer{}
	for name, call := range calls {
		for _, a := range arguments {
			want[name] = append(want[name], call(a))
		}
	}
	var all sync.WaitGroup
	var wrong [8]int64
	for i := range wrong {
		all.Go(func() {
			for name, call := range calls {
				for k, a := range arguments {
					if !call(a).same(want[name][k]) {
						wrong[i]++
					}
				}
			}
		})
	}
	all.Wait()
	if wrong != [8]int64{} {
		t.Error("calls that are made at the same time")
	}
}

func holdLedger(t *testing.T, a ledgerArgument) {
	t.Helper()
	want := plainLedger(a)
	for name, call := range ledgerCalls() {
		if got := call(a); !got.same(want[name]) {
			t.Fatal(name, "of", a, "is", got, "and not", want[name])
		}
	}
}

func TestLedgerAgainstThePlainOne(t *testing.T) {
	for _, a := range ledgerArguments() {
		holdLedger(t, a)
	}
}

func TestAnyArgumentsOfTheLedgerAreAnswered(t *testing.T) {
	r := rand.New(rand.NewSource(99))
	numbers := []int64{math.MinInt64, math.MinInt64 + 1, -33, -2, -1, 0, 1, 2, 3, 5, 16, 17, 31, 32, 33, 100, 511, 512, 800, 1000, 1001, greatestTxn, greatestTxn + 1, greatestLSN, greatestLSN + 1, math.MaxInt64 - 1, math.MaxInt64}
	any := func() int64 { return numbers[r.Intn(len(numbers))] }
	for range 4000 {
		a := ledgerArgument{
			g:       impl.Geometry{Pages: any(), Frames: any(), LogSectors: any()},
			numbers: [4]int64{any(), any(), any(), any()},
			lengths: anyLengths(r), holds: anyHolds(r), locks: anyLocks(r),
			txn: any(), id: any(), page: any(), before: any(), after: any(), long: any(),
		}
		switch r.Intn(4) {
		case 0:
			a.holds = nil
			for range r.Intn(5) {
				a.holds = append(a.holds, hold(any(), any(), any()))
			}
		case 1:
			a.lengths[r.Intn(len(a.lengths))] = any()
		case 2:
			a.locks = locksOf(lock(any(), any(), any()), lock(any(), any(), any()))
		}
		holdLedger(t, a)
	}
}
