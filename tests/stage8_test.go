package tests

import (
	"math"
	"math/rand"
	"slices"
	"testing"

	"loop.example/s02544/impl"
)

func holdLocksFault(t *testing.T, name string, list []impl.Lock, want int64) {
	t.Helper()
	if got := impl.LocksFault(list); got != want {
		t.Error("LocksFault of", name, "is", got, "and not", want)
	}
	if got := plainLocksFault(list); got != want {
		t.Error("the test's own answer to", name, "is", got, "and not", want)
	}
}

func TestLockConstants(t *testing.T) {
	if impl.MaxIds != 512 || impl.Shared != 1 || impl.Exclusive != 2 || impl.MaxIds*impl.MaxTxns != mostLocks || impl.MaxTxnId != greatestTxn {
		t.Error("the constants of chapter 8")
	}
}

func TestLocksFaultOfLength(t *testing.T) {
	holdLocksFault(t, "no locks", nil, 0)
	holdLocksFault(t, "an empty list", []impl.Lock{}, 0)
	holdLocksFault(t, "eight on each id", fullLocks(512, 8), 0)
	holdLocksFault(t, "64 on each of 64 ids", fullLocks(64, 64), 0)
	holdLocksFault(t, "one less", fullLocks(512, 8)[1:], 0)
	holdLocksFault(t, "one more, of the last id", append(fullLocks(512, 8), lock(lastId, 9, 1)), 1)
	holdLocksFault(t, "one more, of an id that is free", append(fullLocks(64, 64), lock(64, 1, 2)), 1)
	holdLocksFault(t, "many more", fullLocks(512, 16), 1)
}

func TestLocksFaultOfBounds(t *testing.T) {
	for _, c := range []struct {
		name string
		lock impl.Lock
		want int64
	}{
		{"the id -1", lock(-1, 5, 1), 2},
		{"the id 0", lock(0, 5, 1), 0},
		{"the last id", lock(511, 5, 1), 0},
		{"the id behind the last", lock(512, 5, 1), 2},
		{"an id far below", lock(math.MinInt64, 5, 1), 2},
		{"an id far above", lock(math.MaxInt64, 5, 1), 2},
		{"the transaction -1", lock(5, -1, 1), 2},
		{"the transaction 0", lock(5, 0, 1), 2},
		{"the transaction 1", lock(5, 1, 1), 0},
		{"the greatest transaction", lock(5, greatestTxn, 1), 0},
		{"one above the greatest transaction", lock(5, greatestTxn+1, 1), 2},
		{"a transaction far below", lock(5, math.MinInt64, 1), 2},
		{"a transaction far above", lock(5, math.MaxInt64, 1), 2},
		{"the mode -1", lock(5, 5, -1), 2},
		{"the mode 0", lock(5, 5, 0), 2},
		{"the mode 1", lock(5, 5, 1), 0},
		{"the mode 2", lock(5, 5, 2), 0},
		{"the mode 3", lock(5, 5, 3), 2},
		{"a mode far below", lock(5, 5, math.MinInt64), 2},
		{"a mode far above", lock(5, 5, math.MaxInt64), 2},
	} {
		holdLocksFault(t, c.name, locksOf(c.lock), c.want)
	}
	good := fullLocks(100, 3)
	for _, at := range []int{0, 1, 150, 298, 299} {
		list := slices.Clone(good)
		list[at].Mode = 0
		holdLocksFault(t, "one of many with the mode 0", list, 2)
	}
}

func TestLocksFaultOfOrder(t *testing.T) {
	for _, c := range []struct {
		name string
		list []impl.Lock
		want int64
	}{
		{"one id and one transaction", locksOf(lock(4, 4, 1), lock(4, 4, 1)), 3},
		{"one id and one transaction in two modes", locksOf(lock(4, 4, 1), lock(4, 4, 2)), 3},
		{"ids that fall", locksOf(lock(5, 4, 1), lock(4, 4, 1)), 3},
		{"ids that fall while transactions rise", locksOf(lock(5, 4, 1), lock(4, 5, 1)), 3},
		{"transactions of one id that fall", locksOf(lock(4, 5, 1), lock(4, 4, 1)), 3},
		{"ids that rise", locksOf(lock(4, 4, 1), lock(5, 4, 1)), 0},
		{"ids that rise while transactions fall", locksOf(lock(4, 5, 1), lock(5, 4, 1)), 0},
		{"transactions of one id that rise", locksOf(lock(4, 4, 1), lock(4, 5, 1)), 0},
		{"the least and the greatest of all", locksOf(lock(0, 1, 2), lock(511, greatestTxn, 2)), 0},
		{"the first two do not rise", locksOf(lock(4, 4, 1), lock(4, 4, 1), lock(5, 1, 1)), 3},
		{"the last two do not rise", locksOf(lock(4, 4, 1), lock(5, 1, 1), lock(5, 1, 1)), 3},
		{"the last one is the first one", locksOf(lock(4, 4, 1), lock(5, 1, 1), lock(4, 4, 1)), 3},
	} {
		holdLocksFault(t, c.name, c.list, c.want)
	}
	for _, at := range []int{0, 1, 2046, 4093, 4094} {
		list := fullLocks(512, 8)
		list[at], list[at+1] = list[at+1], list[at]
		holdLocksFault(t, "two of the longest list exchanged", list, 3)
	}
}

func TestLocksFaultOfConflict(t *testing.T) {
	for a := int64(1); a <= 2; a++ {
		for b := int64(1); b <= 2; b++ {
			want := int64(4)
			if a == 1 && b == 1 {
				want = 0
			}
			holdLocksFault(t, "two on one id", locksOf(lock(6, 1, a), lock(6, 2, b)), want)
			holdLocksFault(t, "two on the id 0", locksOf(lock(0, 1, a), lock(0, greatestTxn, b)), want)
			holdLocksFault(t, "two on the last id", locksOf(lock(0, 1, 2), lock(511, 1, a), lock(511, 2, b)), want)
			holdLocksFault(t, "two on one id among others", locksOf(lock(5, 1, 2), lock(6, 1, a), lock(6, 2, b), lock(7, 1, 2)), want)
			holdLocksFault(t, "two on two ids", locksOf(lock(6, 1, a), lock(7, 2, b)), 0)
			holdLocksFault(t, "one on two ids", locksOf(lock(6, 1, a), lock(7, 1, b)), 0)
		}
	}
	for _, modes := range [][]int64{{2, 1, 1}, {1, 2, 1}, {1, 1, 2}} {
		holdLocksFault(t, "three of which one is exclusive", locksOf(lock(6, 1, modes[0]), lock(6, 2, modes[1]), lock(6, 3, modes[2])), 4)
	}
	holdLocksFault(t, "three that share", locksOf(lock(6, 1, 1), lock(6, 2, 1), lock(6, 3, 1)), 0)
	for _, at := range []int{0, 7, 8, 2047, 2048, 4088, 4095} {
		list := fullLocks(512, 8)
		list[at].Mode = 2
		holdLocksFault(t, "one exclusive of the longest list", list, 4)
	}
}

// TestOfTwoFaultsOfLocksTheFirst has the greater fault ahead of the lesser one in the list, where that can be.
func TestOfTwoFaultsOfLocksTheFirst(t *testing.T) {
	long := func(ahead ...impl.Lock) []impl.Lock {
		return append(ahead, fullLocks(512, 8)...)
	}
	for _, c := range []struct {
		name string
		list []impl.Lock
		want int64
	}{
		{"length and bounds", long(lock(-1, 1, 1)), 1},
		{"length and order", long(lock(5, 1, 1)), 1},
		{"length and conflict", long(lock(0, 1, 2), lock(0, 2, 2)), 1},
		{"bounds and order", locksOf(lock(5, 1, 1), lock(4, 1, 1), lock(6, 1, 0)), 2},
		{"bounds and conflict", locksOf(lock(5, 1, 2), lock(5, 2, 2), lock(6, 1, 3)), 2},
		{"order and conflict", locksOf(lock(5, 1, 2), lock(5, 2, 2), lock(4, 1, 1)), 3},
		{"conflict and order of one pair", locksOf(lock(5, 2, 2), lock(5, 1, 2)), 3},
		{"all but length", locksOf(lock(5, 1, 2), lock(5, 2, 2), lock(4, 1, 1), lock(9, 0, 1)), 2},
	} {
		holdLocksFault(t, c.name, c.list, c.want)
	}
}

// TestLocksFaultOfAnyLists takes lists of few numbers, at the bounds and beyond them, so that all faults come up.
func TestLocksFaultOfAnyLists(t *testing.T) {
	r := rand.New(rand.NewSource(81))
	pick := func(likely, rare []int64) int64 {
		if r.Intn(20) == 0 {
			return rare[r.Intn(len(rare))]
		}
		return likely[r.Intn(len(likely))]
	}
	var seen [5]int
	for range 20000 {
		list := []impl.Lock{}
		for range r.Intn(5) {
			list = append(list, lock(pick([]int64{0, 1, 511}, []int64{-1, 512}), pick([]int64{1, 2, greatestTxn}, []int64{0, greatestTxn + 1}), pick([]int64{1, 1, 2}, []int64{0, 3})))
		}
		want := plainLocksFault(list)
		if got := impl.LocksFault(list); got != want {
			t.Fatal("LocksFault of", list, "is", got, "and not", want)
		}
		seen[want]++
	}
	if seen[0] < 100 || seen[2] < 100 || seen[3] < 100 || seen[4] < 100 {
		t.Error("too few lists of a kind", seen)
	}
}

func holdModes(t *testing.T, name string, list []impl.Lock, txn, id, mode, others int64) {
	t.Helper()
	if got := impl.LockMode(list, txn, id); got != mode {
		t.Error("LockMode:", name, "is", got, "and not", mode)
	}
	if got := impl.LockOthers(list, txn, id); got != others {
		t.Error("LockOthers:", name, "is", got, "and not", others)
	}
	if plainLockMode(list, txn, id) != mode || plainLockOthers(list, txn, id) != others {
		t.Error("the test's own answer:", name)
	}
}

func TestModes(t *testing.T) {
	list := locksOf(lock(0, 9, 1), lock(3, 1, 2), lock(7, 1, 1), lock(7, 2, 1), lock(7, 5, 1), lock(8, 2, 1), lock(9, 2, 2), lock(511, greatestTxn, 2))
	for _, c := range []struct {
		name           string
		txn, id        int64
		mode, greatest int64
	}{
		{"alone and exclusive", 1, 3, 2, 0},
		{"another exclusive", 2, 3, 0, 2},
		{"alone and shared", 2, 8, 1, 0},
		{"another shared", 1, 8, 0, 1},
		{"it and others", 1, 7, 1, 1},
		{"the second of three", 2, 7, 1, 1},
		{"the last of three", 5, 7, 1, 1},
		{"three others", 3, 7, 0, 1},
		{"none", 1, 4, 0, 0},
		{"none, next to an exclusive one", 2, 10, 0, 0},
		{"the first id", 9, 0, 1, 0},
		{"the first id, another", 8, 0, 0, 1},
		{"the last id", greatestTxn, 511, 2, 0},
		{"the last id, another", 1, 511, 0, 2},
		{"the id -1", 1, -1, 0, 0},
		{"the id 512", greatestTxn, 512, 0, 0},
		{"an id far below", 1, math.MinInt64, 0, 0},
		{"an id far above", 1, math.MaxInt64, 0, 0},
		{"the transaction 0", 0, 3, 0, 2},
		{"the transaction -1", -1, 7, 0, 1},
		{"one above the greatest transaction", greatestTxn + 1, 511, 0, 2},
		{"a transaction far below", math.MinInt64, 8, 0, 1},
		{"a transaction far above", math.MaxInt64, 4, 0, 0},
	} {
		holdModes(t, c.name, list, c.txn, c.id, c.mode, c.greatest)
	}
	holdModes(t, "no locks", nil, 1, 0, 0, 0)
	full := fullLocks(512, 8)
	holdModes(t, "the longest list, the last lock", full, 8, 511, 1, 1)
	holdModes(t, "the longest list, another transaction", full, 9, 511, 0, 1)
}

func TestModesOfAFaultyList(t *testing.T) {
	for _, list := range faultyLocks() {
		if impl.LocksFault(list) == 0 {
			t.Fatal("a list without fault", list)
		}
		for _, l := range list[max(0, len(list)-3):] {
			holdModes(t, "a faulty list", list, l.Txn, l.Id, 0, 0)
			holdModes(t, "a faulty list, another transaction", list, 77, l.Id, 0, 0)
		}
	}
	list := locksOf(lock(1, 1, 2), lock(2, 2, 1), lock(9, 0, 1))
	holdModes(t, "a fault elsewhere", list, 1, 1, 0, 0)
	holdModes(t, "a fault elsewhere, another transaction", list, 3, 2, 0, 0)
}

func TestModesOfAnyLists(t *testing.T) {
	r := rand.New(rand.NewSource(82))
	for range 300 {
		list := anyLocks(r)
		for _, id := range []int64{-1, 0, 1, 2, 3, 4, 7, 255, 256, 510, 511, 512} {
			for _, txn := range []int64{0, 1, 2, 3, 4, 5, 300, greatestTxn, greatestTxn + 1} {
				if got, want := impl.LockMode(list, txn, id), plainLockMode(list, txn, id); got != want {
					t.Fatal("LockMode of", list, txn, id, "is", got, "and not", want)
				}
				if got, want := impl.LockOthers(list, txn, id), plainLockOthers(list, txn, id); got != want {
					t.Fatal("LockOthers of", list, txn, id, "is", got, "and not", want)
				}
			}
		}
	}
}
