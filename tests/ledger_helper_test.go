package tests

import (
	"math"
	"math/rand"
	"slices"

	"loop.example/s02544/impl"
)

// The bounds of chapters 3 and 9, written out.
const (
	mostIds    = 512
	mostPages  = 16
	slotsEach  = 32
	mostRecord = 1000
	pageRoom   = 3948
)

func hold(id, txn, most int64) impl.Hold {
	return impl.Hold{Id: id, Txn: txn, Most: most}
}

func holdsOf(list ...impl.Hold) []impl.Hold {
	return list
}

// bare is a list of lengths of so many pages that have no records.
func bare(pages int) []int64 {
	return slices.Repeat([]int64{-1}, pages*slotsEach)
}

// lengthsOf has the lengths ahead in the pages, from the id 0 on.
func lengthsOf(pages int, ahead ...int64) []int64 {
	list := bare(pages)
	copy(list, ahead)
	return list
}

// withLength has one number changed.
func withLength(lengths []int64, id int, length int64) []int64 {
	list := slices.Clone(lengths)
	list[id] = length
	return list
}

// fullHolds has a hold on each of the first so many ids.
func fullHolds(ids int64) []impl.Hold {
	var list []impl.Hold
	for id := range ids {
		list = append(list, hold(id, 1+id%5, id%7))
	}
	return list
}

// plainHoldsFault says the chapter's words one after the other.
func plainHoldsFault(holds []impl.Hold) int64 {
	if len(holds) > mostIds {
		return 1
	}
	for i := range holds {
		for k := range i {
			if holds[k].Id >= holds[i].Id {
				return 1
			}
		}
	}
	for _, h := range holds {
		if h.Id < 0 || h.Id > lastId || h.Txn < 1 || h.Txn > greatestTxn || h.Most < 0 || h.Most > mostRecord {
			return 2
		}
	}
	return 0
}

func plainTake(holds []impl.Hold, txn, id, before, after int64) []impl.Hold {
	if plainHoldsFault(holds) != 0 || txn < 1 || txn > greatestTxn || id < 0 || id > lastId {
		return nil
	}
	if before < -1 || before > mostRecord || after < -1 || after > mostRecord {
		return nil
	}
	var list []impl.Hold
	most := max(0, before, after)
	for _, h := range holds {
		if h.Id == id {
			most = max(most, h.Most)
		} else {
			list = append(list, h)
		}
	}
	list = append(list, hold(id, txn, most))
	slices.SortFunc(list, func(a, b impl.Hold) int { return int(a.Id - b.Id) })
	return list
}

func plainGiveUp(holds []impl.Hold, txn int64) []impl.Hold {
	var left []impl.Hold
	for _, h := range holds {
		if h.Txn != txn {
			left = append(left, h)
		}
	}
	if plainHoldsFault(holds) != 0 {
		return nil
	}
	return left
}

func plainLengths(lengths []int64) bool {
	pages := 0
	for pages*slotsEach < len(lengths) {
		pages++
	}
	if pages < 1 || pages > mostPages || pages*slotsEach != len(lengths) {
		return false
	}
	return slices.Min(lengths) >= -1 && slices.Max(lengths) <= mostRecord
}

// plainNeed is the greater of the length of an id and the hold on it.
func plainNeed(lengths []int64, holds []impl.Hold, id int64) int64 {
	need := max(0, lengths[id])
	for _, h := range holds {
		if h.Id == id {
			need = max(need, h.Most)
		}
	}
	return need
}

// plainRoom answers false where it cannot be asked.
func plainRoom(lengths []int64, holds []impl.Hold, page int64) (int64, bool) {
	if !plainLengths(lengths) || plainHoldsFault(holds) != 0 || page < 0 || page > lastId/slotsEach || page*slotsEach >= int64(len(lengths)) {
		return -1, false
	}
	room := int64(pageRoom)
	for slot := range int64(slotsEach) {
		room -= plainNeed(lengths, holds, page*slotsEach+slot)
	}
	return room, true
}

func plainRoomFor(lengths []int64, holds []impl.Hold, id, length int64) bool {
	if id < 0 || id > lastId || length < 0 || length > mostRecord {
		return false
	}
	room, asked := plainRoom(lengths, holds, id/slotsEach)
	return asked && room >= max(0, length-plainNeed(lengths, holds, id))
}

func plainFresh(lengths []int64, holds []impl.Hold, locks []impl.Lock, txn, length int64) int64 {
	if !plainLengths(lengths) || plainHoldsFault(holds) != 0 || plainLocksFault(locks) != 0 {
		return -1
	}
	for id := range int64(len(lengths)) {
		free := lengths[id] == -1 && plainRoomFor(lengths, holds, id, length)
		for _, h := range holds {
			free = free && h.Id != id
		}
		for _, l := range locks {
			free = free && (l.Id != id || l.Txn == txn)
		}
		if free {
			return id
		}
	}
	return -1
}

// plainLogFree takes what the log keeps away one after the other.
func plainLogFree(g impl.Geometry, end, low, imaged, reserved int64) int64 {
	if plainGeometryFault(g) != 0 {
		return -1
	}
	for _, n := range []int64{end, low, imaged, reserved} {
		if n < 0 || n > greatestLSN {
			return -1
		}
	}
	free := (g.LogSectors - 1) * sectorSize
	free -= end
	free += low
	free -= 4131 * g.Pages
	free += 4131 * imaged
	free -= 240
	free -= 10 * g.Pages
	return free - reserved
}

func plainGeometryFault(g impl.Geometry) int64 {
	if g.Pages < 1 || g.Pages > 16 {
		return 1
	}
	if g.Frames < 3 || g.Frames > 16 {
		return 2
	}
	if g.LogSectors < 24+9*g.Pages || g.LogSectors > 800 {
		return 3
	}
	return 0
}

func goodHolds() [][]impl.Hold {
	return [][]impl.Hold{
		nil,
		{hold(0, 1, 0)},
		{hold(511, greatestTxn, 1000)},
		{hold(3, 7, 900), hold(4, 8, 0), hold(9, 7, 1000), hold(31, 2, 5), hold(32, 7, 6), hold(63, 8, 7), hold(300, 7, 8)},
		fullHolds(mostIds),
	}
}

// faultyHolds has lists of each of the faults, some with both.
func faultyHolds() [][]impl.Hold {
	return [][]impl.Hold{
		append(fullHolds(mostIds), hold(512, 1, 1)),
		append(fullHolds(mostIds), hold(511, 1, 1)),
		{hold(2, 1, 1), hold(2, 1, 1)},
		{hold(2, 1, 1), hold(2, 2, 1)},
		{hold(3, 1, 1), hold(2, 1, 1)},
		{hold(1, 1, 1), hold(3, 1, 1), hold(2, 1, 1)},
		{hold(-1, 1, 1)},
		{hold(512, 1, 1)},
		{hold(2, 0, 1)},
		{hold(2, greatestTxn+1, 1)},
		{hold(2, 1, -1)},
		{hold(2, 1, 1001)},
		{hold(1, 1, 1), hold(2, 1, 1), hold(3, 1, 1001)},
		{hold(math.MinInt64, math.MinInt64, math.MinInt64)},
		{hold(math.MaxInt64, math.MaxInt64, math.MaxInt64)},
		{hold(math.MinInt64, 1, 1), hold(math.MaxInt64, 1, 1)},
		{hold(math.MaxInt64, 1, 1), hold(math.MinInt64, 1, 1)},
	}
}

func goodLengths() [][]int64 {
	return [][]int64{
		bare(1),
		bare(16),
		lengthsOf(1, 1000, 1000, 1000, 900),
		lengthsOf(2, 1000, 1000, 1000, 948),
		lengthsOf(2, append(slices.Repeat([]int64{123}, 32), 0, 1, 2)...),
		lengthsOf(16, slices.Repeat([]int64{0}, 512)...),
		slices.Repeat([]int64{1000}, 32),
	}
}

// faultyLengths are no lists of lengths.
func faultyLengths() [][]int64 {
	return [][]int64{
		nil,
		{},
		{-1},
		bare(1)[1:],
		append(bare(1), -1),
		append(bare(15), bare(1)[1:]...),
		bare(17),
		append(bare(16), -1),
		bare(100),
		withLength(bare(1), 0, -2),
		withLength(bare(1), 31, -2),
		withLength(bare(2), 33, 1001),
		withLength(bare(16), 511, 1001),
		withLength(bare(1), 5, math.MinInt64),
		withLength(bare(1), 5, math.MaxInt64),
	}
}

// anyHolds has no fault.
func anyHolds(r *rand.Rand) []impl.Hold {
	var list []impl.Hold
	for _, id := range []int64{0, 1, 2, 3, 4, 30, 31, 32, 33, 63, 64, 100, 510, 511} {
		if r.Intn(3) == 0 {
			list = append(list, hold(id, 1+r.Int63n(4), anyLengthOf(r)))
		}
	}
	return list
}

func anyLengthOf(r *rand.Rand) int64 {
	switch r.Intn(4) {
	case 0:
		return 0
	case 1:
		return 1000
	case 2:
		return r.Int63n(20)
	}
	return r.Int63n(mostRecord + 1)
}

// anyLengths has no fault; some of its pages are full, some nearly so.
func anyLengths(r *rand.Rand) []int64 {
	list := bare(1 + r.Intn(3))
	for id := range list {
		switch r.Intn(5) {
		case 0:
			list[id] = r.Int63n(500)
		case 1:
			list[id] = r.Int63n(100)
		}
	}
	return list
}
