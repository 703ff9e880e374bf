package tests

import (
	"bytes"
	"math/rand"
	"testing"

	"loop.example/s02544/impl"
)

// wayBack is what a slot had ahead of a change.
type wayBack struct {
	id     int64
	record impl.PageRecord
}

// roomRun has what the tests of P11 go on with: real pages, beside what the ledger knows of them.
type roomRun struct {
	pages   [][]byte
	lengths []int64
	holds   []impl.Hold
	ways    map[int64][]wayBack
	lsn     int64
}

func newRoomRun(pages int64) *roomRun {
	g := &roomRun{lengths: bare(int(pages)), ways: map[int64][]wayBack{}}
	for page := range pages {
		g.pages = append(g.pages, impl.PageNew(page))
	}
	return g
}

// set lays the record into its page, where it must fit.
func (g *roomRun) set(t *testing.T, id int64, record impl.PageRecord) {
	t.Helper()
	g.lsn++
	page, slot := id/slotsEach, id%slotsEach
	r := impl.PageSet(g.pages[page], slot, record, g.lsn)
	if r.Code != 0 {
		t.Fatal("a record of", len(record.Data), "bytes does not fit at", id, "beside", g.lengths, g.holds)
	}
	g.pages[page] = r.Page
	g.lengths[id] = -1
	if record.Used {
		g.lengths[id] = int64(len(record.Data))
	}
	if left := impl.RoomLeft(g.lengths, g.holds, page); left < 0 {
		t.Fatal("the room left is", left, "with", g.lengths, g.holds)
	}
}

// mayChange tells whether no other transaction has changed the id and not ended.
func (g *roomRun) mayChange(txn, id int64) bool {
	for _, h := range g.holds {
		if h.Id == id && h.Txn != txn {
			return false
		}
	}
	return true
}

// change answers false where there is no room for it.
func (g *roomRun) change(t *testing.T, txn, id, length int64) bool {
	t.Helper()
	record := impl.PageRecord{}
	if length >= 0 {
		if !impl.RoomFor(g.lengths, g.holds, id, length) {
			return false
		}
		record = impl.PageRecord{Used: true, Data: bytes.Repeat([]byte{byte(g.lsn)}, int(length))}
	}
	before := g.lengths[id]
	g.ways[txn] = append(g.ways[txn], wayBack{id, impl.PageGet(g.pages[id/slotsEach], id%slotsEach)})
	g.holds = impl.HoldTake(g.holds, txn, id, before, length)
	g.set(t, id, record)
	return true
}

// undo goes the last of the transaction's ways back; behind the first one it has ended.
func (g *roomRun) undo(t *testing.T, txn int64) {
	t.Helper()
	ways := g.ways[txn]
	if len(ways) > 0 {
		last := ways[len(ways)-1]
		g.ways[txn] = ways[:len(ways)-1]
		g.set(t, last.id, last.record)
	}
	if len(g.ways[txn]) == 0 {
		g.end(txn)
	}
}

func (g *roomRun) end(txn int64) {
	delete(g.ways, txn)
	g.holds = impl.HoldFree(g.holds, txn)
}

// anyNewLength is likely to be at the edge of what there is room for.
func (g *roomRun) anyNewLength(r *rand.Rand, id int64) int64 {
	edge := plainNeed(g.lengths, g.holds, id) + impl.RoomLeft(g.lengths, g.holds, id/slotsEach)
	switch r.Intn(6) {
	case 0:
		return -1
	case 1:
		return min(edge, mostRecord)
	case 2:
		return min(edge+1, mostRecord)
	case 3:
		return r.Int63n(10)
	}
	return anyLengthOf(r)
}

// TestEveryWayBackFits is P11: transactions change records side by side; some are given up, one's steps between those of others.
func TestEveryWayBackFits(t *testing.T) {
	for seed, c := range []struct {
		pages, ids, txns int64
	}{{1, 5, 2}, {1, 8, 4}, {1, 32, 8}, {2, 40, 5}} {
		r := rand.New(rand.NewSource(int64(97 + seed)))
		g := newRoomRun(c.pages)
		goesBack := map[int64]bool{}
		var done, refused, undone int
		for range 8000 {
			txn := 1 + r.Int63n(c.txns)
			switch {
			case goesBack[txn]:
				undone++
				g.undo(t, txn)
				goesBack[txn] = g.ways[txn] != nil
			case r.Intn(25) == 0:
				goesBack[txn] = g.ways[txn] != nil
			case r.Intn(25) == 0:
				g.end(txn)
			default:
				id := r.Int63n(c.ids)
				if !g.mayChange(txn, id) {
					continue
				}
				if g.change(t, txn, id, g.anyNewLength(r, id)) {
					done++
				} else {
					refused++
				}
			}
		}
		if done < 1000 || refused < 100 || undone < 200 {
			t.Error("too few of a kind:", done, "done,", refused, "refused,", undone, "undone")
		}
	}
}

// TestInsertsFitWhereTheyAreTold takes new ids from FreshId alone, while what was deleted may come back.
func TestInsertsFitWhereTheyAreTold(t *testing.T) {
	r := rand.New(rand.NewSource(101))
	g := newRoomRun(3)
	var inserts, none int
	for range 6000 {
		txn := 1 + r.Int63n(4)
		switch r.Intn(12) {
		case 0:
			for g.ways[txn] != nil {
				g.undo(t, txn)
			}
		case 1:
			g.end(txn)
		case 2, 3, 4, 5:
			if id := r.Int63n(96); g.lengths[id] >= 0 && g.mayChange(txn, id) {
				g.change(t, txn, id, -1)
			}
		default:
			length := 200 + r.Int63n(801)
			id := impl.FreshId(g.lengths, g.holds, nil, txn, length)
			if id == -1 {
				none++
				continue
			}
			inserts++
			if g.lengths[id] != -1 || !g.change(t, txn, id, length) {
				t.Fatal("FreshId tells", id, "where there is a record or no room:", g.lengths, g.holds)
			}
		}
	}
	if inserts < 300 || none < 300 {
		t.Error("too few of a kind:", inserts, "inserts,", none, "without an id")
	}
}

// fewChanges goes through all runs of a few changes by two transactions at three slots, beside which there are 948 bytes.
type fewChanges struct {
	lengths [3]int64
	ways    [2][]wayBack3
	holds   []impl.Hold
}

type wayBack3 struct {
	slot   int
	length int64
}

const besideFew = 3000

func (f fewChanges) fits() bool {
	all := int64(besideFew)
	for _, n := range f.lengths {
		all += max(0, n)
	}
	return all <= pageRoom
}

// everyWayFits goes all ways back of the transactions that are given up, in each order between them.
func (f fewChanges) everyWayFits(givenUp [2]bool) bool {
	if !f.fits() {
		return false
	}
	for txn, ways := range f.ways {
		if !givenUp[txn] || len(ways) == 0 {
			continue
		}
		back := f
		last := ways[len(ways)-1]
		back.lengths[last.slot] = last.length
		back.ways[txn] = ways[:len(ways)-1]
		if !back.everyWayFits(givenUp) {
			return false
		}
	}
	return true
}

// TestEveryRunOfFewChanges has each run of up to four changes, and each way back behind it.
func TestEveryRunOfFewChanges(t *testing.T) {
	runs, refused := 0, 0
	var goOn func(f fewChanges, left int)
	goOn = func(f fewChanges, left int) {
		runs++
		for _, givenUp := range [][2]bool{{true, false}, {false, true}, {true, true}} {
			if !f.everyWayFits(givenUp) {
				t.Fatal("a way back does not fit:", f)
			}
		}
		for choice := range 18 * min(left, 1) {
			txn, slot, length := choice%2, choice/2%3, []int64{-1, 400, 948}[choice/6]
			if f.heldByOther(txn, slot) {
				continue
			}
			lengths := lengthsOf(1, f.lengths[0], f.lengths[1], f.lengths[2], 1000, 1000, 1000)
			if length >= 0 && !impl.RoomFor(lengths, f.holds, int64(slot), length) {
				refused++
				continue
			}
			next := f
			next.holds = impl.HoldTake(f.holds, int64(txn+1), int64(slot), f.lengths[slot], length)
			next.ways[txn] = append(append([]wayBack3{}, f.ways[txn]...), wayBack3{slot, f.lengths[slot]})
			next.lengths[slot] = length
			goOn(next, left-1)
		}
	}
	for _, lengths := range [][3]int64{{-1, -1, -1}, {948, -1, 0}, {400, 400, -1}, {474, 474, -1}} {
		goOn(fewChanges{lengths: lengths}, 4)
	}
	if runs < 10000 || refused < 10000 {
		t.Error("too few of a kind:", runs, "runs,", refused, "refused")
	}
}

func (f fewChanges) heldByOther(txn, slot int) bool {
	for _, way := range f.ways[1-txn] {
		if way.slot == slot {
			return true
		}
	}
	return false
}
