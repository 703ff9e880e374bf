package tests

import (
	"math"
	"math/rand"
	"slices"
	"testing"

	"loop.example/s02544/impl"
)

func holdRoomLeft(t *testing.T, name string, lengths []int64, holds []impl.Hold, page, want int64) {
	t.Helper()
	if got := impl.RoomLeft(lengths, holds, page); got != want {
		t.Error("RoomLeft of", name, "is", got, "and not", want)
	}
	if own, _ := plainRoom(lengths, holds, page); own != want {
		t.Error("the test's own answer to", name, "is", own, "and not", want)
	}
}

func TestRoomLeft(t *testing.T) {
	for _, c := range []struct {
		name    string
		lengths []int64
		holds   []impl.Hold
		page    int64
		want    int64
	}{
		{"a page without records and holds", bare(1), nil, 0, 3948},
		{"an empty record", lengthsOf(1, 0), nil, 0, 3948},
		{"a byte", lengthsOf(1, 1), nil, 0, 3947},
		{"some records", lengthsOf(1, 1000, 1000, 1000, 900), nil, 0, 48},
		{"a full page", lengthsOf(1, 1000, 1000, 1000, 948), nil, 0, 0},
		{"one byte too many", lengthsOf(1, 1000, 1000, 1000, 949), nil, 0, -1},
		{"two bytes too many", lengthsOf(1, 1000, 1000, 1000, 950), nil, 0, -2},
		{"all slots with the longest record", slices.Repeat([]int64{1000}, 32), nil, 0, 3948 - 32000},
		{"a length greater than the hold", lengthsOf(1, 100), holdsOf(hold(0, 1, 99)), 0, 3848},
		{"a length equal to the hold", lengthsOf(1, 100), holdsOf(hold(0, 1, 100)), 0, 3848},
		{"a hold greater than the length", lengthsOf(1, 100), holdsOf(hold(0, 1, 101)), 0, 3847},
		{"a hold without a record", bare(1), holdsOf(hold(5, 1, 700)), 0, 3248},
		{"a hold of nothing without a record", bare(1), holdsOf(hold(5, 1, 0)), 0, 3948},
		{"holds and lengths, each the greater once", lengthsOf(1, 10, 20, 30), holdsOf(hold(0, 1, 5), hold(1, 2, 25), hold(3, 1, 7)), 0, 3948 - 10 - 25 - 30 - 7},
		{"holds that are too much", bare(1), holdsOf(hold(0, 1, 1000), hold(1, 1, 1000), hold(2, 1, 1000), hold(3, 1, 1000)), 0, -52},
		{"the second page", lengthsOf(2, 1000, 1000), nil, 1, 3948},
		{"the first page, with a record in the second", withLength(bare(2), 32, 9), nil, 0, 3948},
		{"the second page, with a record in its first slot", withLength(bare(2), 32, 9), nil, 1, 3939},
		{"the second page, with a record in its last slot", withLength(bare(3), 63, 9), nil, 1, 3939},
		{"the second page, with a record behind it", withLength(bare(3), 64, 9), nil, 1, 3948},
		{"the second page, with a record ahead of it", withLength(bare(3), 31, 9), nil, 1, 3948},
		{"a hold on the last id of the page before", bare(3), holdsOf(hold(31, 1, 8)), 1, 3948},
		{"a hold on the first id of the page", bare(3), holdsOf(hold(32, 1, 8)), 1, 3940},
		{"a hold on the last id of the page", bare(3), holdsOf(hold(63, 1, 8)), 1, 3940},
		{"a hold on the first id of the page behind", bare(3), holdsOf(hold(64, 1, 8)), 1, 3948},
		{"a hold on the id behind the list", bare(1), holdsOf(hold(32, 1, 8)), 0, 3948},
		{"holds on ids far behind the list", lengthsOf(1, 6), holdsOf(hold(0, 1, 8), hold(100, 1, 8), hold(511, 1, 8)), 0, 3940},
		{"the last page of all", withLength(bare(16), 511, 77), holdsOf(hold(480, 1, 1)), 15, 3948 - 78},
	} {
		holdRoomLeft(t, c.name, c.lengths, c.holds, c.page, c.want)
	}
}

func TestRoomLeftOfWhatIsNone(t *testing.T) {
	for _, c := range []struct{ pages, last int64 }{{1, 0}, {2, 1}, {16, 15}} {
		lengths := bare(int(c.pages))
		holdRoomLeft(t, "the first page", lengths, nil, 0, 3948)
		holdRoomLeft(t, "the last page", lengths, nil, c.last, 3948)
		for _, page := range []int64{-1, c.last + 1, -c.pages, math.MinInt64, math.MaxInt64, math.MaxInt64 / 32, math.MinInt64 / 32, 1 << 59} {
			holdRoomLeft(t, "a page that is none", lengths, nil, page, -1)
		}
	}
	for _, lengths := range faultyLengths() {
		for _, page := range []int64{0, 1, 15, 16} {
			holdRoomLeft(t, "no list of lengths", lengths, nil, page, -1)
		}
	}
	for _, holds := range faultyHolds() {
		holdRoomLeft(t, "faulty holds", bare(2), holds, 0, -1)
		holdRoomLeft(t, "faulty holds", bare(2), holds, 1, -1)
	}
}

func TestRoomLeftOfAnyPages(t *testing.T) {
	r := rand.New(rand.NewSource(94))
	for range 3000 {
		lengths, holds := anyLengths(r), anyHolds(r)
		for page := int64(-1); page <= 3; page++ {
			want, _ := plainRoom(lengths, holds, page)
			if got := impl.RoomLeft(lengths, holds, page); got != want {
				t.Fatal("RoomLeft of", lengths, holds, page, "is", got, "and not", want)
			}
		}
	}
}

func holdRoomFor(t *testing.T, name string, lengths []int64, holds []impl.Hold, id, length int64, want bool) {
	t.Helper()
	if got := impl.RoomFor(lengths, holds, id, length); got != want {
		t.Error("RoomFor", name, "is", got)
	}
	if own := plainRoomFor(lengths, holds, id, length); own != want {
		t.Error("the test's own answer to", name, "is", own)
	}
}

func TestRoomFor(t *testing.T) {
	near := lengthsOf(2, 1000, 1000, 1000, 900)
	full := lengthsOf(2, 1000, 1000, 1000, 948)
	over := lengthsOf(2, 1000, 1000, 1000, 949)
	kept := holdsOf(hold(4, 1, 40))
	for _, c := range []struct {
		name       string
		lengths    []int64
		holds      []impl.Hold
		id, length int64
		want       bool
	}{
		{"a new record, just enough", near, nil, 4, 48, true},
		{"a new record, one byte less", near, nil, 4, 49, false},
		{"a new record at the last slot", near, nil, 31, 48, true},
		{"a new record at the last slot, one byte less", near, nil, 31, 49, false},
		{"a new record in the second page", near, nil, 32, 1000, true},
		{"a record that grows, just enough", near, nil, 3, 948, true},
		{"a record that grows, one byte less", near, nil, 3, 949, false},
		{"a record that stays", near, nil, 3, 900, true},
		{"a record that shrinks", near, nil, 3, 899, true},
		{"a record that shrinks to nothing", near, nil, 3, 0, true},
		{"a full page, a record that stays", full, nil, 3, 948, true},
		{"a full page, a record that shrinks", full, nil, 3, 947, true},
		{"a full page, a record that grows", full, nil, 3, 949, false},
		{"a full page, an empty record", full, nil, 4, 0, true},
		{"a full page, a byte", full, nil, 4, 1, false},
		{"a page that is too full, a record that stays", over, nil, 3, 949, false},
		{"a page that is too full, a record that shrinks", over, nil, 3, 10, false},
		{"a page that is too full, an empty record", over, nil, 4, 0, false},
		{"the page behind one that is too full", over, nil, 32, 1000, true},
		{"up to the hold", near, kept, 4, 40, true},
		{"less than the hold", near, kept, 4, 39, true},
		{"nothing, below the hold", near, kept, 4, 0, true},
		{"above the hold, just enough", near, kept, 4, 48, true},
		{"above the hold, one byte less", near, kept, 4, 49, false},
		{"beside the hold, just enough", near, kept, 5, 8, true},
		{"beside the hold, one byte less", near, kept, 5, 9, false},
		{"a hold greater than the length, up to it", lengthsOf(1, 1000, 1000, 1000, 10), holdsOf(hold(3, 1, 948)), 3, 948, true},
		{"a hold greater than the length, above it", lengthsOf(1, 1000, 1000, 1000, 10), holdsOf(hold(3, 1, 948)), 3, 949, false},
		{"a hold less than the length, up to it", full, holdsOf(hold(3, 1, 10)), 3, 948, true},
		{"a hold less than the length, above it", full, holdsOf(hold(3, 1, 10)), 3, 949, false},
		{"holds that are too much", lengthsOf(1, 1000, 1000, 1000), holdsOf(hold(3, 1, 949)), 3, 0, false},
		{"a hold behind the list", near, holdsOf(hold(64, 1, 1000)), 4, 48, true},
		{"the length -1", bare(1), nil, 4, -1, false},
		{"the length 0", bare(1), nil, 4, 0, true},
		{"the longest record", bare(1), nil, 4, 1000, true},
		{"one byte more than the longest", bare(1), nil, 4, 1001, false},
		{"a length far below", bare(1), nil, 4, math.MinInt64, false},
		{"a length far above", bare(1), nil, 4, math.MaxInt64, false},
		{"the id -1", bare(1), nil, -1, 5, false},
		{"the id -31", bare(1), nil, -31, 5, false},
		{"the first id", bare(1), nil, 0, 5, true},
		{"the last id", bare(1), nil, 31, 5, true},
		{"the id behind the list", bare(1), nil, 32, 5, false},
		{"the last id of all", bare(16), nil, 511, 5, true},
		{"the id behind all", bare(16), nil, 512, 5, false},
		{"an id far below", bare(1), nil, math.MinInt64, 5, false},
		{"an id far above", bare(1), nil, math.MaxInt64, 5, false},
	} {
		holdRoomFor(t, c.name, c.lengths, c.holds, c.id, c.length, c.want)
	}
}

func TestRoomForWhereItCannotBeAsked(t *testing.T) {
	for _, lengths := range faultyLengths() {
		holdRoomFor(t, "no list of lengths", lengths, nil, 0, 0, false)
		holdRoomFor(t, "no list of lengths", lengths, nil, 3, 7, false)
	}
	for _, holds := range faultyHolds() {
		holdRoomFor(t, "faulty holds", bare(2), holds, 0, 0, false)
		holdRoomFor(t, "faulty holds", bare(2), holds, 40, 7, false)
	}
}

// TestRoomForIsExact asks at each id of any page for the greatest length that there is room for, and for one byte more.
func TestRoomForIsExact(t *testing.T) {
	r := rand.New(rand.NewSource(95))
	var given, refused int
	for range 400 {
		lengths, holds := anyLengths(r), anyHolds(r)
		for id := range int64(len(lengths)) {
			need := plainNeed(lengths, holds, id)
			room, _ := plainRoom(lengths, holds, id/slotsEach)
			for _, length := range []int64{-1, 0, need - 1, need, need + 1, need + room - 1, need + room, need + room + 1, mostRecord, mostRecord + 1} {
				want := plainRoomFor(lengths, holds, id, length)
				if got := impl.RoomFor(lengths, holds, id, length); got != want {
					t.Fatal("RoomFor", lengths, holds, id, length, "is", got)
				}
				if want {
					given++
				} else {
					refused++
				}
			}
		}
	}
	if given < 10000 || refused < 10000 {
		t.Error("too few of a kind:", given, "given,", refused, "refused")
	}
}

func holdFresh(t *testing.T, name string, lengths []int64, holds []impl.Hold, locks []impl.Lock, txn, length, want int64) {
	t.Helper()
	if got := impl.FreshId(lengths, holds, locks, txn, length); got != want {
		t.Error("FreshId of", name, "is", got, "and not", want)
	}
	if own := plainFresh(lengths, holds, locks, txn, length); own != want {
		t.Error("the test's own answer to", name, "is", own, "and not", want)
	}
}

func TestFreshId(t *testing.T) {
	taken := withLength(lengthsOf(1, 5, 0, 7), 4, 9)
	for _, c := range []struct {
		name    string
		lengths []int64
		holds   []impl.Hold
		locks   []impl.Lock
		txn     int64
		length  int64
		want    int64
	}{
		{"the first of all", bare(1), nil, nil, 1, 5, 0},
		{"the least that has no record", taken, nil, nil, 1, 5, 3},
		{"an empty record is one", lengthsOf(1, 0), nil, nil, 1, 0, 1},
		{"a hold of another", taken, holdsOf(hold(3, 2, 0)), nil, 1, 5, 5},
		{"a hold of the same transaction", taken, holdsOf(hold(3, 1, 0)), nil, 1, 5, 5},
		{"a hold with enough room of its own", taken, holdsOf(hold(3, 1, 100)), nil, 1, 5, 5},
		{"a hold on an id with a record", taken, holdsOf(hold(2, 1, 100)), nil, 1, 5, 3},
		{"a shared lock of another", taken, nil, locksOf(lock(3, 2, 1)), 1, 5, 5},
		{"an exclusive lock of another", taken, nil, locksOf(lock(3, 2, 2)), 1, 5, 5},
		{"a shared lock of its own", taken, nil, locksOf(lock(3, 1, 1)), 1, 5, 3},
		{"an exclusive lock of its own", taken, nil, locksOf(lock(3, 1, 2)), 1, 5, 3},
		{"a lock of its own and one of another", taken, nil, locksOf(lock(3, 1, 1), lock(3, 2, 1)), 1, 5, 5},
		{"a lock of another and one of its own", taken, nil, locksOf(lock(3, 1, 1), lock(3, 2, 1)), 2, 5, 5},
		{"locks of others on ids with records", taken, nil, locksOf(lock(0, 2, 2), lock(4, 3, 2)), 1, 5, 3},
		{"hold, lock and record one behind the other", taken, holdsOf(hold(3, 2, 0)), locksOf(lock(5, 2, 2), lock(6, 1, 2)), 1, 5, 6},
		{"a hold and a lock of its own", taken, holdsOf(hold(3, 1, 0)), locksOf(lock(3, 1, 2)), 1, 5, 5},
		{"a transaction that is none, with locks", taken, nil, locksOf(lock(3, 1, 1)), 0, 5, 5},
		{"a transaction that is none, without locks", taken, nil, nil, -7, 5, 3},
		{"just enough room", lengthsOf(1, 1000, 1000, 1000, 900), nil, nil, 1, 48, 4},
		{"one byte less", lengthsOf(1, 1000, 1000, 1000, 900), nil, nil, 1, 49, -1},
		{"a page with no room ahead of one with room", lengthsOf(2, 1000, 1000, 1000, 900), nil, nil, 1, 49, 32},
		{"a page too full ahead of one with room", lengthsOf(2, 1000, 1000, 1000, 1000), nil, nil, 1, 0, 32},
		{"a page with holds ahead of one with room", bare(2), holdsOf(hold(0, 1, 1000), hold(1, 1, 1000), hold(2, 1, 1000), hold(31, 1, 900)), nil, 1, 49, 32},
		{"a page with holds and enough room", bare(2), holdsOf(hold(0, 1, 1000), hold(1, 1, 1000), hold(2, 1, 1000), hold(31, 1, 900)), nil, 1, 48, 3},
		{"a page with all slots taken", lengthsOf(2, slices.Repeat([]int64{0}, 32)...), nil, nil, 1, 5, 32},
		{"the last id of all", withLength(slices.Repeat([]int64{0}, 512), 511, -1), nil, nil, 1, 1000, 511},
		{"the last slot of a page", withLength(slices.Repeat([]int64{0}, 64), 31, -1), nil, nil, 1, 1000, 31},
		{"no slot at all", slices.Repeat([]int64{0}, 32), nil, nil, 1, 0, -1},
		{"holds on all", bare(16), fullHolds(512), nil, 1, 0, -1},
		{"holds on all of the first page", bare(2), fullHolds(32), nil, 1, 0, 32},
		{"locks of others on all", bare(16), nil, fullLocks(512, 1), 2, 0, -1},
		{"its own locks on all", bare(16), nil, fullLocks(512, 1), 1, 0, 0},
		{"holds behind the list", bare(1), holdsOf(hold(32, 1, 1000), hold(511, 1, 1000)), nil, 1, 1000, 0},
		{"the length -1", bare(1), nil, nil, 1, -1, -1},
		{"the longest record", bare(1), nil, nil, 1, 1000, 0},
		{"one byte more than the longest", bare(1), nil, nil, 1, 1001, -1},
		{"a length far below", bare(1), nil, nil, 1, math.MinInt64, -1},
		{"a length far above", bare(1), nil, nil, 1, math.MaxInt64, -1},
	} {
		holdFresh(t, c.name, c.lengths, c.holds, c.locks, c.txn, c.length, c.want)
	}
}

func TestFreshIdOfFaultyLists(t *testing.T) {
	for _, lengths := range faultyLengths() {
		holdFresh(t, "no list of lengths", lengths, nil, nil, 1, 5, -1)
	}
	for _, holds := range faultyHolds() {
		holdFresh(t, "faulty holds", bare(2), holds, nil, 1, 5, -1)
	}
	for _, locks := range faultyLocks() {
		holdFresh(t, "faulty locks", bare(2), nil, locks, 1, 5, -1)
	}
}

func TestFreshIdOfAnyPages(t *testing.T) {
	r := rand.New(rand.NewSource(96))
	seen := map[int64]int{}
	for range 4000 {
		lengths, holds, locks := anyLengths(r), anyHolds(r), anyLocks(r)
		for _, length := range []int64{0, 1, r.Int63n(300), r.Int63n(1001), 1000} {
			txn := r.Int63n(5)
			want := plainFresh(lengths, holds, locks, txn, length)
			if got := impl.FreshId(lengths, holds, locks, txn, length); got != want {
				t.Fatal("FreshId of", lengths, holds, locks, txn, length, "is", got, "and not", want)
			}
			seen[want]++
		}
	}
	if seen[-1] < 100 || seen[0] < 100 || seen[1] < 100 || seen[32] < 100 {
		t.Error("too few of a kind", seen)
	}
}
