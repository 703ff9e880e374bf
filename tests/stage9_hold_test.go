package tests

import (
	"math"
	"math/rand"
	"slices"
	"testing"

	"loop.example/s02544/impl"
)

func holdHoldsFault(t *testing.T, name string, holds []impl.Hold, want int64) {
	t.Helper()
	if got := impl.HoldsFault(holds); got != want {
		t.Error("HoldsFault of", name, "is", got, "and not", want)
	}
	if got := plainHoldsFault(holds); got != want {
		t.Error("the test's own answer to", name, "is", got, "and not", want)
	}
}

func TestHoldsFaultOfLengthAndOrder(t *testing.T) {
	holdHoldsFault(t, "no holds", nil, 0)
	holdHoldsFault(t, "an empty list", []impl.Hold{}, 0)
	holdHoldsFault(t, "one on each id", fullHolds(512), 0)
	holdHoldsFault(t, "one less", fullHolds(512)[1:], 0)
	holdHoldsFault(t, "one more, which rises", append(fullHolds(512), hold(512, 1, 1)), 1)
	holdHoldsFault(t, "one more, on the last id", append(fullHolds(512), hold(511, 1, 1)), 1)
	holdHoldsFault(t, "many more", fullHolds(5000), 1)
	for _, c := range []struct {
		name  string
		holds []impl.Hold
		want  int64
	}{
		{"two on one id", holdsOf(hold(4, 1, 5), hold(4, 1, 5)), 1},
		{"two on one id, of two transactions", holdsOf(hold(4, 1, 5), hold(4, 2, 5)), 1},
		{"two on one id, the second with more", holdsOf(hold(4, 1, 5), hold(4, 2, 6)), 1},
		{"two that fall", holdsOf(hold(5, 1, 5), hold(4, 1, 5)), 1},
		{"two that fall while transactions rise", holdsOf(hold(5, 1, 5), hold(4, 2, 5)), 1},
		{"two that rise while transactions fall", holdsOf(hold(4, 2, 5), hold(5, 1, 5)), 0},
		{"two that rise, of one transaction", holdsOf(hold(4, 2, 6), hold(5, 2, 5)), 0},
		{"the first and the last id", holdsOf(hold(0, 2, 6), hold(511, 2, 5)), 0},
		{"the first two do not rise", holdsOf(hold(4, 1, 5), hold(4, 1, 5), hold(6, 1, 5)), 1},
		{"the last two do not rise", holdsOf(hold(4, 1, 5), hold(6, 1, 5), hold(5, 1, 5)), 1},
		{"the last one is the first one", holdsOf(hold(4, 1, 5), hold(6, 1, 5), hold(4, 1, 5)), 1},
	} {
		holdHoldsFault(t, c.name, c.holds, c.want)
	}
	for _, at := range []int{0, 1, 255, 509, 510} {
		list := fullHolds(512)
		list[at], list[at+1] = list[at+1], list[at]
		holdHoldsFault(t, "two of the longest list exchanged", list, 1)
	}
}

func TestHoldsFaultOfBounds(t *testing.T) {
	for _, c := range []struct {
		name string
		hold impl.Hold
		want int64
	}{
		{"the id -1", hold(-1, 5, 5), 2},
		{"the id 0", hold(0, 5, 5), 0},
		{"the last id", hold(511, 5, 5), 0},
		{"the id behind the last", hold(512, 5, 5), 2},
		{"an id far below", hold(math.MinInt64, 5, 5), 2},
		{"an id far above", hold(math.MaxInt64, 5, 5), 2},
		{"the transaction -1", hold(5, -1, 5), 2},
		{"the transaction 0", hold(5, 0, 5), 2},
		{"the transaction 1", hold(5, 1, 5), 0},
		{"the greatest transaction", hold(5, greatestTxn, 5), 0},
		{"one above the greatest transaction", hold(5, greatestTxn+1, 5), 2},
		{"a transaction far below", hold(5, math.MinInt64, 5), 2},
		{"a transaction far above", hold(5, math.MaxInt64, 5), 2},
		{"no record", hold(5, 5, -1), 2},
		{"nothing", hold(5, 5, 0), 0},
		{"a byte", hold(5, 5, 1), 0},
		{"the longest record", hold(5, 5, 1000), 0},
		{"one byte more", hold(5, 5, 1001), 2},
		{"far below", hold(5, 5, math.MinInt64), 2},
		{"far above", hold(5, 5, math.MaxInt64), 2},
	} {
		holdHoldsFault(t, c.name, holdsOf(c.hold), c.want)
	}
	for _, at := range []int{0, 1, 255, 510, 511} {
		list := fullHolds(512)
		list[at].Most = 1001
		holdHoldsFault(t, "one of many with too much", list, 2)
		list = fullHolds(512)
		list[at].Txn = 0
		holdHoldsFault(t, "one of many with the transaction 0", list, 2)
	}
}

func TestOfTwoFaultsOfHoldsTheFirst(t *testing.T) {
	holdHoldsFault(t, "bounds ahead of order", holdsOf(hold(1, 0, 5), hold(5, 1, 5), hold(4, 1, 5)), 1)
	holdHoldsFault(t, "bounds behind order", holdsOf(hold(5, 1, 5), hold(4, 1, 5), hold(6, 1, 1001)), 1)
	holdHoldsFault(t, "both of one pair", holdsOf(hold(-1, 1, 5), hold(-1, 1, 5)), 1)
	holdHoldsFault(t, "length and bounds", append(holdsOf(hold(-1, 1, 5)), fullHolds(512)...), 1)
	holdHoldsFault(t, "far ids that rise", holdsOf(hold(math.MinInt64, 1, 5), hold(math.MaxInt64, 1, 5)), 2)
	holdHoldsFault(t, "far ids that fall", holdsOf(hold(math.MaxInt64, 1, 5), hold(math.MinInt64, 1, 5)), 1)
}

func TestHoldsFaultOfAnyLists(t *testing.T) {
	r := rand.New(rand.NewSource(92))
	var seen [3]int
	for range 20000 {
		var list []impl.Hold
		id := int64(-1)
		if r.Intn(20) == 0 {
			id--
		}
		for range r.Intn(5) {
			if id += 1 + r.Int63n(3); r.Intn(15) == 0 {
				id -= r.Int63n(5)
			}
			if r.Intn(40) == 0 {
				id = 510 + r.Int63n(3)
			}
			h := hold(id, 1+r.Int63n(3), anyLengthOf(r))
			if r.Intn(20) == 0 {
				h.Txn = []int64{0, greatestTxn, greatestTxn + 1}[r.Intn(3)]
			}
			if r.Intn(20) == 0 {
				h.Most = []int64{-1, 1000, 1001}[r.Intn(3)]
			}
			list = append(list, h)
		}
		want := plainHoldsFault(list)
		if got := impl.HoldsFault(list); got != want {
			t.Fatal("HoldsFault of", list, "is", got, "and not", want)
		}
		seen[want]++
	}
	if seen[0] < 500 || seen[1] < 500 || seen[2] < 500 {
		t.Error("too few lists of a kind", seen)
	}
}

func holdTake(t *testing.T, name string, holds []impl.Hold, txn, id, before, after int64, want []impl.Hold) {
	t.Helper()
	got := impl.HoldTake(holds, txn, id, before, after)
	if !slices.Equal(got, want) {
		t.Error("HoldTake:", name, "is", got, "and not", want)
	}
	if own := plainTake(holds, txn, id, before, after); !slices.Equal(own, want) {
		t.Error("the test's own answer:", name, "is", own, "and not", want)
	}
}

func TestHoldTakeOfAFreeId(t *testing.T) {
	a, b, c := hold(10, 1, 50), hold(20, 2, 60), hold(30, 1, 70)
	holds := holdsOf(a, b, c)
	holdTake(t, "the first of all", nil, 7, 3, 900, 10, holdsOf(hold(3, 7, 900)))
	holdTake(t, "ahead of all", holds, 7, 9, 4, 5, holdsOf(hold(9, 7, 5), a, b, c))
	holdTake(t, "at the id 0", holds, 7, 0, 4, 5, holdsOf(hold(0, 7, 5), a, b, c))
	holdTake(t, "behind all", holds, 7, 31, 4, 5, holdsOf(a, b, c, hold(31, 7, 5)))
	holdTake(t, "at the last id", holds, 7, 511, 4, 5, holdsOf(a, b, c, hold(511, 7, 5)))
	holdTake(t, "between the first two", holds, 7, 11, 4, 5, holdsOf(a, hold(11, 7, 5), b, c))
	holdTake(t, "between the last two", holds, 7, 29, 4, 5, holdsOf(a, b, hold(29, 7, 5), c))
	holdTake(t, "of a transaction that has some", holds, 1, 19, 4, 5, holdsOf(a, hold(19, 1, 5), b, c))
	for _, n := range []struct{ before, after, most int64 }{
		{-1, -1, 0}, {-1, 0, 0}, {0, -1, 0}, {0, 0, 0}, {-1, 1, 1}, {1, -1, 1}, {-1, 1000, 1000}, {1000, -1, 1000}, {999, 1000, 1000}, {1000, 999, 1000}, {7, 7, 7},
	} {
		holdTake(t, "before and after alone", nil, 1, 5, n.before, n.after, holdsOf(hold(5, 1, n.most)))
	}
	full := fullHolds(512)
	holdTake(t, "the one that is missing of the longest list", slices.Delete(slices.Clone(full), 77, 78), full[77].Txn, 77, full[77].Most, -1, full)
}

func TestHoldTakeOfAnIdWithAHold(t *testing.T) {
	a, b, c := hold(10, 1, 50), hold(20, 2, 60), hold(30, 1, 70)
	holds := holdsOf(a, b, c)
	for _, n := range []struct{ before, after, most int64 }{
		{59, 58, 60}, {61, 58, 61}, {58, 61, 61}, {60, 60, 60}, {-1, -1, 60}, {0, -1, 60}, {-1, 61, 61}, {61, -1, 61}, {1000, 0, 1000}, {0, 1000, 1000}, {62, 61, 62}, {61, 62, 62},
	} {
		for _, txn := range []int64{2, 1, 3, greatestTxn} {
			holdTake(t, "the second hold", holds, txn, 20, n.before, n.after, holdsOf(a, hold(20, txn, n.most), c))
		}
	}
	holdTake(t, "the first hold", holds, 1, 10, 51, 2, holdsOf(hold(10, 1, 51), b, c))
	holdTake(t, "the first hold, of another", holds, 2, 10, 1, 2, holdsOf(hold(10, 2, 50), b, c))
	holdTake(t, "the last hold", holds, 1, 30, 51, 71, holdsOf(a, b, hold(30, 1, 71)))
	holdTake(t, "the last hold, of another", holds, 9, 30, 51, 52, holdsOf(a, b, hold(30, 9, 70)))
	holdTake(t, "a hold of nothing", holdsOf(hold(4, 1, 0)), 2, 4, -1, -1, holdsOf(hold(4, 2, 0)))
	full := fullHolds(512)
	want := slices.Clone(full)
	want[511] = hold(511, 88, 1000)
	holdTake(t, "one of the longest list", full, 88, 511, 1000, 0, want)
}

func TestHoldTakeOutOfBounds(t *testing.T) {
	holds := holdsOf(hold(10, 1, 50))
	good := [4]int64{1, 12, 5, 6}
	for at, edges := range [4][2]int64{{1, greatestTxn}, {0, 511}, {-1, 1000}, {-1, 1000}} {
		for _, c := range []struct {
			number int64
			taken  bool
		}{
			{edges[0], true}, {edges[1], true}, {edges[0] - 1, false}, {edges[1] + 1, false}, {math.MinInt64, false}, {math.MaxInt64, false},
		} {
			n := good
			n[at] = c.number
			var want []impl.Hold
			if c.taken {
				want = holdsOf(hold(10, 1, 50), hold(n[1], n[0], max(n[2], n[3])))
				slices.SortFunc(want, func(a, b impl.Hold) int { return int(a.Id - b.Id) })
			}
			holdTake(t, "a number at or beyond its bounds", holds, n[0], n[1], n[2], n[3], want)
		}
	}
	for _, holds := range faultyHolds() {
		holdTake(t, "faulty holds", holds, 1, 12, 5, 6, nil)
		holdTake(t, "faulty holds, an id with one", holds, 1, 2, 5, 6, nil)
	}
}

func holdGiveUp(t *testing.T, name string, holds []impl.Hold, txn int64, want []impl.Hold) {
	t.Helper()
	if got := impl.HoldFree(holds, txn); !slices.Equal(got, want) {
		t.Error("HoldFree:", name, "is", got, "and not", want)
	}
	if own := plainGiveUp(holds, txn); !slices.Equal(own, want) {
		t.Error("the test's own answer:", name, "is", own, "and not", want)
	}
}

func TestHoldFree(t *testing.T) {
	a, b, c, d := hold(10, 1, 50), hold(20, 2, 60), hold(30, 1, 70), hold(40, greatestTxn, 0)
	holds := holdsOf(a, b, c, d)
	holdGiveUp(t, "no holds", nil, 1, nil)
	holdGiveUp(t, "two of four", holds, 1, holdsOf(b, d))
	holdGiveUp(t, "one between others", holds, 2, holdsOf(a, c, d))
	holdGiveUp(t, "the last one", holds, greatestTxn, holdsOf(a, b, c))
	holdGiveUp(t, "none", holds, 3, holds)
	holdGiveUp(t, "all", holdsOf(a, c, hold(31, 1, 0)), 1, nil)
	holdGiveUp(t, "the only one", holdsOf(b), 2, nil)
	for _, txn := range []int64{0, -1, greatestTxn + 1, math.MinInt64, math.MaxInt64} {
		holdGiveUp(t, "a transaction out of its bounds", holds, txn, holds)
	}
	for _, holds := range faultyHolds() {
		holdGiveUp(t, "faulty holds", holds, 1, nil)
		holdGiveUp(t, "faulty holds, another transaction", holds, 77, nil)
	}
	full := fullHolds(512)
	for txn := int64(1); txn <= 6; txn++ {
		var want []impl.Hold
		for _, h := range full {
			if h.Txn != txn {
				want = append(want, h)
			}
		}
		holdGiveUp(t, "the longest list", full, txn, want)
	}
}

// TestHoldsStayWithoutFault takes and frees many; the list is held against one number for each id.
func TestHoldsStayWithoutFault(t *testing.T) {
	r := rand.New(rand.NewSource(93))
	var holds []impl.Hold
	kept := map[int64]impl.Hold{}
	for range 6000 {
		if r.Intn(40) == 0 {
			txn := 1 + r.Int63n(5)
			holds = impl.HoldFree(holds, txn)
			for id, h := range kept {
				if h.Txn == txn {
					delete(kept, id)
				}
			}
		} else {
			id, txn, before, after := r.Int63n(60)*511/59, 1+r.Int63n(5), anyLengthOf(r)-r.Int63n(2), anyLengthOf(r)-r.Int63n(2)
			holds = impl.HoldTake(holds, txn, id, before, after)
			kept[id] = hold(id, txn, max(kept[id].Most, before, after, 0))
		}
		if impl.HoldsFault(holds) != 0 || len(holds) != len(kept) {
			t.Fatal("the holds have the fault", impl.HoldsFault(holds), "or are not so many as", len(kept))
		}
		for _, h := range holds {
			if kept[h.Id] != h {
				t.Fatal("a hold is", h, "and not", kept[h.Id])
			}
		}
	}
}
