package tests

import (
	"math/rand"
	"testing"

	"loop.example/s02544/impl"
)

// grid is what the tests of P10 hold a list against: the mode in which each of some transactions holds each of some ids.
type grid struct {
	ids, txns []int64
	modes     [][]int64
}

func newGrid(ids, txns []int64) *grid {
	g := &grid{ids: ids, txns: txns}
	for range ids {
		g.modes = append(g.modes, make([]int64, len(txns)))
	}
	return g
}

func (g *grid) list() []impl.Lock {
	var list []impl.Lock
	for i, id := range g.ids {
		for k, txn := range g.txns {
			if g.modes[i][k] != 0 {
				list = append(list, lock(id, txn, g.modes[i][k]))
			}
		}
	}
	return list
}

// torn tells whether two hold one id and one of them exclusively.
func (g *grid) torn() bool {
	for _, row := range g.modes {
		var count [3]int
		for _, mode := range row {
			count[mode]++
		}
		if count[2] > 1 || count[2] == 1 && count[1] > 0 {
			return true
		}
	}
	return false
}

// goes tells whether every other holder of the id holds it in a mode that goes with the asked one.
func (g *grid) goes(i, k int, mode int64) bool {
	for other, has := range g.modes[i] {
		if other != k && has != 0 && (has != 1 || mode != 1) {
			return false
		}
	}
	return true
}

// ask holds an asking against the grid, which changes if the lock is given; it answers the list behind it.
func (g *grid) ask(t *testing.T, list []impl.Lock, i, k int, mode int64) []impl.Lock {
	t.Helper()
	r := impl.LockAsk(list, g.txns[k], g.ids[i], mode)
	want := impl.LockResult{Code: 1}
	if g.goes(i, k, mode) {
		g.modes[i][k] = max(g.modes[i][k], mode)
		want = impl.LockResult{Locks: g.list()}
	}
	if !sameLockResult(r, want) {
		t.Fatalf("LockAsk of %v, %d, %d, %d: %+v and not %+v", list, g.txns[k], g.ids[i], mode, r, want)
	}
	if r.Code != 0 {
		return list
	}
	return r.Locks
}

// free holds a freeing against the grid, which changes with it.
func (g *grid) free(t *testing.T, list []impl.Lock, k int) []impl.Lock {
	t.Helper()
	for i := range g.ids {
		g.modes[i][k] = 0
	}
	r, want := impl.LockFree(list, g.txns[k]), impl.LockResult{Locks: g.list()}
	if !sameLockResult(r, want) {
		t.Fatalf("LockFree of %v, %d: %+v and not %+v", list, g.txns[k], r, want)
	}
	return r.Locks
}

// hold asks for all modes.
func (g *grid) hold(t *testing.T, list []impl.Lock) {
	t.Helper()
	if g.torn() || impl.LocksFault(list) != 0 {
		t.Fatal("two hold one id and one of them exclusively, or the list is faulty:", list, impl.LocksFault(list))
	}
	for i, id := range g.ids {
		for k, txn := range g.txns {
			others := int64(0)
			for other, mode := range g.modes[i] {
				if other != k {
					others = max(others, mode)
				}
			}
			if impl.LockMode(list, txn, id) != g.modes[i][k] || impl.LockOthers(list, txn, id) != others {
				t.Fatal("the modes of", txn, "and others on", id, "in", list)
			}
		}
	}
}

// TestLocksNeverConflict is P10: many askings and freeings one behind the other.
func TestLocksNeverConflict(t *testing.T) {
	for seed, c := range []struct{ ids, txns []int64 }{
		{[]int64{4}, []int64{1, 2}},
		{[]int64{0, 511}, []int64{1, greatestTxn}},
		{[]int64{3, 4, 5}, []int64{1, 2, 3, 4}},
		{[]int64{0, 1, 2, 31, 32, 255, 256, 510, 511}, []int64{1, 2, 3, 4, 5, 6, 7, greatestTxn}},
	} {
		r := rand.New(rand.NewSource(int64(83 + seed)))
		g := newGrid(c.ids, c.txns)
		var list []impl.Lock
		var given, refused int
		for n := range 4000 {
			before := len(list)
			if r.Intn(8) == 0 {
				list = g.free(t, list, r.Intn(len(c.txns)))
			} else {
				i, k, mode := r.Intn(len(c.ids)), r.Intn(len(c.txns)), 1+r.Int63n(2)
				goes := g.goes(i, k, mode)
				list = g.ask(t, list, i, k, mode)
				if goes {
					given++
				} else if refused++; len(list) != before {
					t.Fatal("a refused lock is in the list", list)
				}
			}
			if n%10 == 0 {
				g.hold(t, list)
			}
		}
		if given < 500 || refused < 500 {
			t.Error("too few askings of a kind:", given, "given,", refused, "refused")
		}
	}
}

// TestEveryListOfFewLocks begins with each list of three transactions on two ids, and asks for and frees all that there is.
func TestEveryListOfFewLocks(t *testing.T) {
	lists := 0
	for code := range 729 {
		at := func() *grid {
			g := newGrid([]int64{6, 7}, []int64{1, 2, 3})
			rest := code
			for i := range g.modes {
				for k := range g.modes[i] {
					g.modes[i][k] = int64(rest % 3)
					rest /= 3
				}
			}
			return g
		}
		list := at().list()
		if at().torn() {
			if impl.LocksFault(list) != 4 {
				t.Fatal("no fault of", list)
			}
			continue
		}
		lists++
		at().hold(t, list)
		for k := range 3 {
			g := at()
			g.hold(t, g.free(t, list, k))
			for i := range 2 {
				for mode := int64(1); mode <= 2; mode++ {
					g := at()
					g.hold(t, g.ask(t, list, i, k, mode))
				}
			}
		}
	}
	// One id is free, or one has it alone in one of two modes, or two or three share it.
	if lists != (1+3*2+3+1)*(1+3*2+3+1) {
		t.Error("lists without conflict:", lists)
	}
}
