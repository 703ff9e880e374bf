package tests

import (
	"math"
	"math/rand"
	"slices"

	"loop.example/s02544/impl"
)

// The bounds of chapter 8, written out.
const (
	lastId    = 511
	mostLocks = 4096
)

func lock(id, txn, mode int64) impl.Lock {
	return impl.Lock{Id: id, Txn: txn, Mode: mode}
}

func locksOf(list ...impl.Lock) []impl.Lock {
	return list
}

func sameLockResult(a, b impl.LockResult) bool {
	return a.Code == b.Code && slices.Equal(a.Locks, b.Locks)
}

// plainLocksFault says the chapter's words one after the other, each pair of locks held against each other.
func plainLocksFault(list []impl.Lock) int64 {
	if len(list) > mostLocks {
		return 1
	}
	for _, l := range list {
		if l.Id < 0 || l.Id > lastId || l.Txn < 1 || l.Txn > greatestTxn || l.Mode < 1 || l.Mode > 2 {
			return 2
		}
	}
	for i := range list {
		if i > 0 && (list[i].Id < list[i-1].Id || list[i].Id == list[i-1].Id && list[i].Txn <= list[i-1].Txn) {
			return 3
		}
	}
	return plainConflict(list)
}

// plainConflict asks all holders of an id at once.
func plainConflict(list []impl.Lock) int64 {
	var holders, exclusive [lastId + 1]int
	for _, l := range list {
		holders[l.Id]++
		if l.Mode == 2 {
			exclusive[l.Id]++
		}
	}
	for id := range holders {
		if holders[id] > 1 && exclusive[id] > 0 {
			return 4
		}
	}
	return 0
}

func plainLockMode(list []impl.Lock, txn, id int64) int64 {
	if plainLocksFault(list) != 0 {
		return 0
	}
	for _, l := range list {
		if l.Id == id && l.Txn == txn {
			return l.Mode
		}
	}
	return 0
}

func plainLockOthers(list []impl.Lock, txn, id int64) int64 {
	most := int64(0)
	if plainLocksFault(list) != 0 {
		return 0
	}
	for _, l := range list {
		if l.Id == id && l.Txn != txn && l.Mode > most {
			most = l.Mode
		}
	}
	return most
}

func plainLockAsk(list []impl.Lock, txn, id, mode int64) impl.LockResult {
	if plainLocksFault(list) != 0 || id < 0 || id > lastId || txn < 1 || txn > greatestTxn || mode < 1 || mode > 2 {
		return impl.LockResult{Code: 2}
	}
	has := plainLockMode(list, txn, id)
	if has == 0 && len(list) == mostLocks {
		return impl.LockResult{Code: 2}
	}
	if others := plainLockOthers(list, txn, id); others == 2 || others == 1 && mode == 2 {
		return impl.LockResult{Code: 1}
	}
	var ahead, behind []impl.Lock
	for _, l := range list {
		switch {
		case l.Id < id || l.Id == id && l.Txn < txn:
			ahead = append(ahead, l)
		case l.Id != id || l.Txn != txn:
			behind = append(behind, l)
		}
	}
	return impl.LockResult{Locks: slices.Concat(ahead, locksOf(lock(id, txn, max(has, mode))), behind)}
}

func plainLockFree(list []impl.Lock, txn int64) impl.LockResult {
	if plainLocksFault(list) != 0 {
		return impl.LockResult{Code: 2}
	}
	var left []impl.Lock
	for _, l := range list {
		if l.Txn != txn {
			left = append(left, l)
		}
	}
	return impl.LockResult{Locks: left}
}

// fullLocks has as many shared locks as there may be: so many transactions on each of so many ids, from the first on.
func fullLocks(ids, txns int64) []impl.Lock {
	var list []impl.Lock
	for id := range ids {
		for txn := range txns {
			list = append(list, lock(id, txn+1, 1))
		}
	}
	return list
}

func goodLocks() [][]impl.Lock {
	return [][]impl.Lock{
		nil,
		{lock(0, 1, 1)},
		{lock(lastId, greatestTxn, 2)},
		{lock(3, 1, 2), lock(7, 1, 1), lock(7, 2, 1), lock(lastId, 2, 2)},
		{lock(0, 1, 1), lock(0, 2, 1), lock(0, greatestTxn, 1), lock(1, 5, 2), lock(2, 4, 2), lock(300, 1, 1)},
		{lock(5, 9, 2), lock(6, 8, 2), lock(7, 7, 2), lock(8, 9, 1)},
		fullLocks(512, 8),
		fullLocks(64, 64),
	}
}

// faultyLocks has lists of each of the faults, some with two.
func faultyLocks() [][]impl.Lock {
	return [][]impl.Lock{
		append(fullLocks(512, 8), lock(lastId, 9, 1)),
		append(fullLocks(64, 64), lock(64, 1, 2), lock(64, 1, 2)),
		{lock(-1, 1, 1)},
		{lock(512, 1, 1)},
		{lock(math.MaxInt64, math.MaxInt64, math.MaxInt64)},
		{lock(math.MinInt64, math.MinInt64, math.MinInt64)},
		{lock(2, 0, 1)},
		{lock(2, greatestTxn+1, 1)},
		{lock(2, 1, 0)},
		{lock(2, 1, 3)},
		{lock(2, 1, 1), lock(2, 1, 1)},
		{lock(3, 1, 1), lock(2, 1, 1)},
		{lock(2, 2, 1), lock(2, 1, 1)},
		{lock(2, 1, 1), lock(2, 2, 2)},
		{lock(2, 1, 2), lock(2, 2, 1)},
		{lock(2, 1, 2), lock(2, 2, 2)},
	}
}

// anyLocks has no fault: each id is held by none, by one alone, or by several that share it.
func anyLocks(r *rand.Rand) []impl.Lock {
	var list []impl.Lock
	for _, id := range []int64{0, 1, 2, 3, 7, 255, 256, 510, lastId} {
		switch r.Intn(3) {
		case 0:
			list = append(list, lock(id, 1+r.Int63n(4), 1+r.Int63n(2)))
		case 1:
			for _, txn := range []int64{1, 2, 3, 4, 300, greatestTxn} {
				if r.Intn(2) == 0 {
					list = append(list, lock(id, txn, 1))
				}
			}
		}
	}
	return list
}
