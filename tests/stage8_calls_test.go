package tests

import (
	"math"
	"slices"
	"testing"

	"loop.example/s02544/impl"
)

// askedLocks is what the tests of the calls begin with.
func askedLocks() []impl.Lock {
	return locksOf(lock(3, 4, 2), lock(7, 2, 1), lock(7, 6, 1), lock(9, 4, 1))
}

// withLock has one lock more, in the named place.
func withLock(at int, l impl.Lock) impl.LockResult {
	return impl.LockResult{Locks: slices.Insert(askedLocks(), at, l)}
}

// turnedLock has another mode in one place.
func turnedLock(at int, mode int64) impl.LockResult {
	list := askedLocks()
	list[at].Mode = mode
	return impl.LockResult{Locks: list}
}

func holdLocks(t *testing.T, name string, got, want impl.LockResult) {
	t.Helper()
	if !sameLockResult(got, want) {
		t.Errorf("%s: %+v and not %+v", name, got, want)
	}
}

func holdAsk(t *testing.T, name string, list []impl.Lock, txn, id, mode int64, want impl.LockResult) {
	t.Helper()
	holdLocks(t, "LockAsk: "+name, impl.LockAsk(list, txn, id, mode), want)
	holdLocks(t, name+", the test's own answer", plainLockAsk(list, txn, id, mode), want)
}

func TestLockAsk(t *testing.T) {
	as := impl.LockResult{Locks: askedLocks()}
	conflict, refused := impl.LockResult{Code: 1}, impl.LockResult{Code: 2}
	for _, c := range []struct {
		name          string
		txn, id, mode int64
		want          impl.LockResult
	}{
		{"ahead of all", 1, 0, 2, withLock(0, lock(0, 1, 2))},
		{"ahead of all, shared", 5, 2, 1, withLock(0, lock(2, 5, 1))},
		{"behind all", greatestTxn, 511, 2, withLock(4, lock(511, greatestTxn, 2))},
		{"behind all, on the last id that is held", 5, 9, 1, withLock(4, lock(9, 5, 1))},
		{"between two ids", 1, 5, 2, withLock(1, lock(5, 1, 2))},
		{"ahead of the others of one id", 1, 7, 1, withLock(1, lock(7, 1, 1))},
		{"between two of one id", 4, 7, 1, withLock(2, lock(7, 4, 1))},
		{"behind the others of one id", 7, 7, 1, withLock(3, lock(7, 7, 1))},
		{"ahead of one of one id", 3, 9, 1, withLock(3, lock(9, 3, 1))},
		{"exclusive again", 4, 3, 2, as},
		{"shared again", 2, 7, 1, as},
		{"shared again, alone", 4, 9, 1, as},
		{"the lesser one: the greater one stays", 4, 3, 1, as},
		{"the greater one, alone", 4, 9, 2, turnedLock(3, 2)},
		{"the greater one beside a shared one", 2, 7, 2, conflict},
		{"the greater one behind a shared one", 6, 7, 2, conflict},
		{"exclusive beside shared ones", 1, 7, 2, conflict},
		{"exclusive between shared ones", 4, 7, 2, conflict},
		{"exclusive beside one shared one", 5, 9, 2, conflict},
		{"shared beside an exclusive one", 5, 3, 1, conflict},
		{"shared beside an exclusive one, ahead of it", 1, 3, 1, conflict},
		{"exclusive beside an exclusive one", 5, 3, 2, conflict},
		{"the id -1", 1, -1, 1, refused},
		{"the id 512", 1, 512, 1, refused},
		{"an id far below", 1, math.MinInt64, 1, refused},
		{"an id far above", 1, math.MaxInt64, 1, refused},
		{"the transaction 0", 0, 5, 1, refused},
		{"the transaction -1", -1, 5, 1, refused},
		{"one above the greatest transaction", greatestTxn + 1, 5, 1, refused},
		{"a transaction far below", math.MinInt64, 5, 1, refused},
		{"a transaction far above", math.MaxInt64, 5, 1, refused},
		{"the mode 0", 1, 5, 0, refused},
		{"the mode -1", 1, 5, -1, refused},
		{"the mode 3", 1, 5, 3, refused},
		{"a mode far below", 1, 5, math.MinInt64, refused},
		{"a mode far above", 1, 5, math.MaxInt64, refused},
		{"the mode 0 of a lock that is held", 4, 3, 0, refused},
		{"the mode 3 of a lock that is held", 4, 9, 3, refused},
		{"the transaction 0, and a conflict", 0, 3, 2, refused},
		{"one above the greatest transaction, and a conflict", greatestTxn + 1, 3, 1, refused},
		{"the mode 0, and a conflict", 5, 3, 0, refused},
		{"the mode 3, and a conflict", 5, 7, 3, refused},
	} {
		holdAsk(t, c.name, askedLocks(), c.txn, c.id, c.mode, c.want)
	}
	for _, id := range []int64{0, 511} {
		for _, txn := range []int64{1, greatestTxn} {
			for mode := int64(1); mode <= 2; mode++ {
				holdAsk(t, "the only lock", nil, txn, id, mode, impl.LockResult{Locks: locksOf(lock(id, txn, mode))})
			}
		}
	}
}

func TestLockAskOfTheLongestList(t *testing.T) {
	full := fullLocks(512, 8)
	as, conflict, refused := impl.LockResult{Locks: full}, impl.LockResult{Code: 1}, impl.LockResult{Code: 2}
	holdAsk(t, "the first lock again", full, 1, 0, 1, as)
	holdAsk(t, "the last lock again", full, 8, 511, 1, as)
	holdAsk(t, "a lock that is in it, exclusive", full, 8, 511, 2, conflict)
	holdAsk(t, "a lock that is not in it", full, 9, 511, 1, refused)
	holdAsk(t, "a lock that is not in it, exclusive", full, 9, 0, 2, refused)
	few := fullLocks(64, 64)
	holdAsk(t, "64 ids, a lock on an id that is free", few, 1, 64, 1, refused)
	holdAsk(t, "64 ids, a lock on the last id", few, 1, 511, 2, refused)
	holdAsk(t, "64 ids, a lock that is in it", few, 64, 63, 1, impl.LockResult{Locks: few})

	alone := append(fullLocks(64, 64)[:mostLocks-1], lock(100, 5, 1))
	up := slices.Clone(alone)
	up[mostLocks-1].Mode = 2
	holdAsk(t, "the only holder asks for the exclusive one", alone, 5, 100, 2, impl.LockResult{Locks: up})
	holdAsk(t, "the exclusive one stays", up, 5, 100, 1, impl.LockResult{Locks: up})
	holdAsk(t, "a lock that is not in it, and a conflict", up, 6, 100, 1, refused)
	holdAsk(t, "a lock that is not in it, and no conflict", up, 64, 63, 1, refused)

	less := full[:mostLocks-1]
	holdAsk(t, "the last lock that there may be", less, 8, 511, 1, as)
	holdAsk(t, "one less than the longest, and a conflict", less, 8, 511, 2, conflict)
	holdAsk(t, "the first lock that there may be", full[1:], 1, 0, 1, as)
}

// TestLockAskOfAFaultyList asks for what would be given, and for what would be a conflict.
func TestLockAskOfAFaultyList(t *testing.T) {
	for _, list := range faultyLocks() {
		for _, id := range []int64{2, 400, 511, 512} {
			for _, txn := range []int64{0, 1, 2, 9} {
				for mode := int64(0); mode <= 3; mode++ {
					holdAsk(t, "a faulty list", list, txn, id, mode, impl.LockResult{Code: 2})
				}
			}
		}
	}
}

func holdFree(t *testing.T, name string, list []impl.Lock, txn int64, want impl.LockResult) {
	t.Helper()
	holdLocks(t, "LockFree: "+name, impl.LockFree(list, txn), want)
	holdLocks(t, name+", the test's own answer", plainLockFree(list, txn), want)
}

func TestLockFree(t *testing.T) {
	list := locksOf(lock(0, 2, 1), lock(3, 4, 2), lock(7, 2, 1), lock(7, 4, 1), lock(7, 6, 1), lock(9, 2, 2), lock(200, 6, 1), lock(511, 2, 2))
	left := func(at ...int) impl.LockResult {
		var r impl.LockResult
		for _, i := range at {
			r.Locks = append(r.Locks, list[i])
		}
		return r
	}
	all := impl.LockResult{Locks: list}
	holdFree(t, "with four locks, the first and the last among them", list, 2, left(1, 3, 4, 6))
	holdFree(t, "with two locks", list, 4, left(0, 2, 4, 5, 6, 7))
	holdFree(t, "with the last of an id", list, 6, left(0, 1, 2, 3, 5, 7))
	holdFree(t, "with no lock", list, 3, all)
	for _, txn := range []int64{0, -1, greatestTxn, greatestTxn + 1, math.MinInt64, math.MaxInt64} {
		holdFree(t, "a transaction that holds nothing, at the bounds and beyond", list, txn, all)
	}
	holdFree(t, "with one lock, the only one", locksOf(lock(5, 1, 2)), 1, impl.LockResult{})
	holdFree(t, "with one lock of two", locksOf(lock(5, 1, 1), lock(5, 2, 1)), 1, impl.LockResult{Locks: locksOf(lock(5, 2, 1))})
	holdFree(t, "with all locks", locksOf(lock(5, 3, 2), lock(6, 3, 1), lock(7, 3, 2)), 3, impl.LockResult{})
	holdFree(t, "the greatest transaction", locksOf(lock(5, greatestTxn, 2), lock(6, 3, 1)), greatestTxn, impl.LockResult{Locks: locksOf(lock(6, 3, 1))})
	holdFree(t, "no locks", nil, 1, impl.LockResult{})
	for _, faulty := range faultyLocks() {
		for _, txn := range []int64{-1, 0, 1, 2, 9, greatestTxn} {
			holdFree(t, "a faulty list", faulty, txn, impl.LockResult{Code: 2})
		}
	}
}

func TestLockFreeOfTheLongestList(t *testing.T) {
	full := fullLocks(512, 8)
	for txn := int64(1); txn <= 8; txn++ {
		holdFree(t, "the longest list", full, txn, plainLockFree(full, txn))
	}
	list := full
	for txn := int64(8); txn >= 1; txn-- {
		list = impl.LockFree(list, txn).Locks
		if len(list) != int(txn-1)*512 || impl.LocksFault(list) != 0 {
			t.Fatal("all of them, one after the other:", len(list), "locks are left behind", txn)
		}
	}
	holdFree(t, "the longest list, no holder", full, 9, impl.LockResult{Locks: full})
}
