package tests

import (
	"bytes"
	"math"
	"math/rand"
	"testing"

	"loop.example/s02544/impl"
)

func mustSet(t *testing.T, page []byte, slot int64, r impl.PageRecord, lsn int64) []byte {
	t.Helper()
	got := impl.PageSet(page, slot, r, lsn)
	if got.Code != 0 || len(got.Page) != 4096 {
		t.Fatal("PageSet has the code", got.Code)
	}
	return got.Page
}

func TestPageCompactExample(t *testing.T) {
	page := laidPage(3, 77, 500, slotEntry{0, 1000, 3}, slotEntry{2, 500, 4}, slotEntry{3, 2000, 0}, slotEntry{9, 4090, 6}, slotEntry{31, 3000, 2})
	zero, two, nine, last := page[1000:1003], page[500:504], page[4090:4096], page[3000:3002]
	got := impl.PageCompact(page)
	if !bytes.Equal(got[4093:], zero) || !bytes.Equal(got[4089:4093], two) || !bytes.Equal(got[4083:4089], nine) || !bytes.Equal(got[4081:4083], last) {
		t.Errorf("the records are %x", got[4070:])
	}
	if bottomOf(got) != 4081 || !bytes.Equal(got[148:4081], make([]byte, 4081-148)) {
		t.Error("the room at the front")
	}
	for i := range 32 {
		want := slotEntry{slot: i}
		switch i {
		case 0:
			want = slotEntry{0, 4093, 3}
		case 2:
			want = slotEntry{2, 4089, 4}
		case 3:
			want = slotEntry{3, 4089, 0}
		case 9:
			want = slotEntry{9, 4083, 6}
		case 31:
			want = slotEntry{31, 4081, 2}
		}
		if s := slotOf(got, i); s != want {
			t.Error("a slot is", s, "not", want)
		}
	}
	if !bytes.Equal(got[:16], page[:16]) || got[18] != 0 || got[19] != 0 {
		t.Error("sum, LSN and number do not stay")
	}
}

func TestPageCompactEdges(t *testing.T) {
	var all []slotEntry
	for i := range 32 {
		all = append(all, slotEntry{i, 148 + 50*i, 50})
	}
	full := []slotEntry{{4, 148, 948}, {3, 1096, 1000}, {20, 2096, 1000}, {1, 3096, 1000}}
	for _, c := range []struct {
		name   string
		page   []byte
		bottom int
	}{
		{"no records", laidPage(3, 5, 200), 4096},
		{"no records, the bottom at the end", laidPage(3, 5, 4096), 4096},
		{"no records, the bottom at the front", laidPage(3, 5, 148), 4096},
		{"a record of no bytes", laidPage(3, 5, 200, slotEntry{6, 300, 0}), 4096},
		{"a record of no bytes in slot 0", laidPage(3, 5, 200, slotEntry{0, 200, 0}, slotEntry{1, 201, 1}), 4095},
		{"records of no bytes around one", laidPage(3, 5, 200, slotEntry{1, 205, 0}, slotEntry{2, 200, 10}, slotEntry{3, 205, 0}), 4086},
		{"all slots", laidPage(3, 5, 148, all...), 4096 - 32*50},
		{"a full page in another order", laidPage(3, 5, 148, full...), 148},
		{"the greatest LSN", laidPage(3, greatestLSN, 148, full...), 148},
		{"one of 1000 bytes at the front", laidPage(3, 5, 148, slotEntry{31, 148, 1000}), 3096},
		{"one that goes to where it lies in part", laidPage(3, 5, 2500, slotEntry{31, 2900, 1000}, slotEntry{30, 3900, 100}), 2996},
	} {
		got := impl.PageCompact(c.page)
		if !bytes.Equal(got, plainCompact(c.page)) || bottomOf(got) != c.bottom {
			t.Errorf("%s is compacted to %x", c.name, got[:148])
		}
		if impl.PageFault(got, 3) != 0 || !bytes.Equal(impl.PageCompact(got), got) {
			t.Error(c.name, "compacted is not compact")
		}
	}
	whole := impl.PageSeal(laidPage(3, 5, 200, slotEntry{6, 300, 5}))
	if got := impl.PageCompact(whole); impl.PageWhole(got) || !bytes.Equal(got[:4], whole[:4]) {
		t.Error("the sum does not stay")
	}
}

// TestPageCompactAnyPages also asks what fits into a compacted page.
func TestPageCompactAnyPages(t *testing.T) {
	r := rand.New(rand.NewSource(33))
	for range 3000 {
		page := anyPage(r)
		got := impl.PageCompact(page)
		if !bytes.Equal(got, plainCompact(page)) {
			t.Fatalf("compacted: %x from %x", got, page)
		}
		if impl.PageFault(got, ownOf(page)) != 0 || impl.PageLSN(got) != impl.PageLSN(page) || impl.PageUsed(got) != impl.PageUsed(page) {
			t.Fatal("a compacted page")
		}
		for slot := range int64(32) {
			if !sameRecord(impl.PageGet(got, slot), impl.PageGet(page, slot)) {
				t.Fatal("the record of slot", slot, "is another one")
			}
		}
	}
}

func TestPageRoomToTheByte(t *testing.T) {
	r := rand.New(rand.NewSource(34))
	met := 0
	for range 3000 {
		page := anyPage(r)
		slot := int64(r.Intn(32))
		room := 3948 - plainUsed(page) + slotOf(page, int(slot)).length
		for _, p := range [][]byte{page, impl.PageCompact(page)} {
			if room <= 1000 {
				set := mustSet(t, p, slot, longRecord(room, 7), 9)
				if impl.PageUsed(set) != 3948 || impl.PageFault(set, ownOf(page)) != 0 {
					t.Fatal("a page that is full to the byte")
				}
				met++
			}
			if room < 1000 {
				if got := impl.PageSet(p, slot, longRecord(room+1, 7), 9); got.Code != 2 || len(got.Page) != 0 {
					t.Fatal("a byte more than PageRoom has the code", got.Code)
				}
				if got := impl.PageSet(p, slot, longRecord(1000, 7), 9); got.Code != 2 || len(got.Page) != 0 {
					t.Fatal("too many bytes have the code", got.Code)
				}
			} else if got := impl.PageSet(p, slot, longRecord(1000, 7), 9); got.Code != 0 {
				t.Fatal("there is room, but the code is", got.Code)
			}
		}
	}
	if met < 300 {
		t.Error("only", met, "pages were filled")
	}
}

// TestPageSetAtTheFront has bytes at the front that show whether the page was compacted.
func TestPageSetAtTheFront(t *testing.T) {
	for _, free := range []int{0, 1, 2, 10, 500, 999, 1000} {
		bottom := 148 + free
		page := laidPage(3, 5, bottom, slotEntry{8, bottom, 3}, slotEntry{2, 3000, 4})
		for _, length := range []int{0, 1, 2, 9, 10, 11, 499, 500, 501, 998, 999, 1000} {
			record := longRecord(length, 200)
			got := mustSet(t, page, 5, record, 6)
			if !bytes.Equal(got, plainSet(page, 5, record, 6)) {
				t.Fatal("free", free, "length", length)
			}
			if length <= free {
				want := append([]byte(nil), page...)
				putLSN(want, 6)
				putBottom(want, bottom-length)
				putSlot(want, 5, bottom-length, length)
				copy(want[bottom-length:bottom], record.Data)
				if !bytes.Equal(got, want) {
					t.Error("free", free, "length", length, "moves or changes something else")
				}
			} else if s := slotOf(got, 2); s.offset != 4092 || slotOf(got, 8).offset != 4089 || slotOf(got, 5).offset != 4089-length {
				t.Error("free", free, "length", length, "is not compacted")
			}
		}
	}
}

// TestPageSetGivesUpFirst has a page with room only where the slot's old record was.
func TestPageSetGivesUpFirst(t *testing.T) {
	page := laidPage(3, 5, 148, slotEntry{0, 148, 948}, slotEntry{1, 1096, 1000}, slotEntry{2, 2096, 1000}, slotEntry{3, 3096, 1000})
	if impl.PageUsed(page) != 3948 || impl.PageSet(page, 4, recordOf("x"), 6).Code != 2 {
		t.Fatal("the page is full")
	}
	for slot := range int64(4) {
		old := slotOf(page, int(slot)).length
		got := mustSet(t, page, slot, longRecord(old, 9), 6)
		if !bytes.Equal(got, plainSet(page, int(slot), longRecord(old, 9), 6)) || bottomOf(got) != 148 || slotOf(got, int(slot)).offset != 148 {
			t.Error("slot", slot, "with as many bytes as before")
		}
		for other := range int64(32) {
			if other != slot && !sameRecord(impl.PageGet(got, other), impl.PageGet(page, other)) {
				t.Error("slot", slot, "changes slot", other)
			}
		}
	}
	if got := impl.PageSet(page, 0, longRecord(949, 9), 6); got.Code != 2 || len(got.Page) != 0 {
		t.Error("a byte more than before has the code", got.Code)
	}
	got := mustSet(t, page, 0, longRecord(947, 9), 6)
	if bottomOf(got) != 149 || got[148] != 0 {
		t.Error("a byte less than before")
	}
}

func TestPageSetGivesUp(t *testing.T) {
	page := laidPage(3, 5, 3000, slotEntry{0, 3000, 10}, slotEntry{31, 3500, 0})
	for _, data := range [][]byte{nil, {}} {
		got := mustSet(t, page, 0, impl.PageRecord{Data: data}, 6)
		want := append([]byte(nil), page...)
		putSlot(want, 0, 0, 0)
		putLSN(want, 6)
		if !bytes.Equal(got, want) {
			t.Error("what is given up changes more than slot and LSN")
		}
		if impl.PageGet(got, 0).Used || !impl.PageGet(got, 31).Used || impl.PageUsed(got) != 0 {
			t.Error("what is given up is still there")
		}
		again := mustSet(t, got, 0, impl.PageRecord{Data: data}, 7)
		putLSN(want, 7)
		if !bytes.Equal(again, want) {
			t.Error("a slot without a record is given up")
		}
		if got := mustSet(t, page, 31, impl.PageRecord{Data: data}, 6); impl.PageGet(got, 31).Used {
			t.Error("a record of no bytes is given up")
		}
	}
}

func TestPageSetNoBytes(t *testing.T) {
	for _, bottom := range []int{148, 149, 4095, 4096} {
		page := laidPage(3, 5, bottom)
		for _, data := range [][]byte{nil, {}} {
			got := mustSet(t, page, 7, impl.PageRecord{Used: true, Data: data}, 6)
			want := append([]byte(nil), page...)
			putSlot(want, 7, bottom, 0)
			putLSN(want, 6)
			if !bytes.Equal(got, want) {
				t.Error("a record of no bytes at the bottom", bottom)
			}
			if r := impl.PageGet(got, 7); !r.Used || len(r.Data) != 0 || impl.PageUsed(got) != 0 || impl.PageFault(got, 3) != 0 {
				t.Error("a record of no bytes is one")
			}
		}
	}
	// Each slot may have one, and the page is still full to the byte.
	page := laidPage(3, 5, 148, slotEntry{0, 148, 948}, slotEntry{1, 1096, 1000}, slotEntry{2, 2096, 1000}, slotEntry{3, 3096, 1000})
	for slot := int64(4); slot < 32; slot++ {
		page = mustSet(t, page, slot, recordOf(""), slot)
	}
	if impl.PageUsed(page) != 3948 || impl.PageFault(page, 3) != 0 || impl.PageSet(page, 31, recordOf("x"), 1).Code != 2 {
		t.Error("a full page with records of no bytes")
	}
}

func TestPageSetBounds(t *testing.T) {
	page := laidPage(3, 5, 3000, slotEntry{0, 3000, 10})
	for _, c := range []struct {
		name string
		slot int64
		r    impl.PageRecord
		lsn  int64
		want int64
	}{
		{"slot -1", -1, recordOf("x"), 6, 1},
		{"slot 0", 0, recordOf("x"), 6, 0},
		{"slot 31", 31, recordOf("x"), 6, 0},
		{"slot 32", 32, recordOf("x"), 6, 1},
		{"slot 33", 33, recordOf("x"), 6, 1},
		{"the greatest slot", math.MaxInt64, recordOf("x"), 6, 1},
		{"the smallest slot", math.MinInt64, recordOf("x"), 6, 1},
		{"slot 2 to the 32", 1 << 32, recordOf("x"), 6, 1},
		{"slot 32, given up", 32, impl.PageRecord{}, 6, 1},
		{"slot -1, given up", -1, impl.PageRecord{}, 6, 1},
		{"LSN 0", 1, recordOf("x"), 0, 0},
		{"LSN below that of the page", 1, recordOf("x"), 4, 0},
		{"LSN of the page", 1, recordOf("x"), 5, 0},
		{"LSN MaxLSN", 1, recordOf("x"), greatestLSN, 0},
		{"LSN MaxLSN + 1", 1, recordOf("x"), greatestLSN + 1, 1},
		{"LSN MaxLSN + 1, given up", 1, impl.PageRecord{}, greatestLSN + 1, 1},
		{"LSN -1", 1, recordOf("x"), -1, 1},
		{"LSN -1, given up", 1, impl.PageRecord{}, -1, 1},
		{"the greatest LSN", 1, recordOf("x"), math.MaxInt64, 1},
		{"the smallest LSN", 1, recordOf("x"), math.MinInt64, 1},
		{"1000 bytes", 1, longRecord(1000, 1), 6, 0},
		{"1001 bytes", 1, longRecord(1001, 1), 6, 1},
		{"4096 bytes", 1, longRecord(4096, 1), 6, 1},
		{"70000 bytes", 1, longRecord(70000, 1), 6, 1},
		{"a byte, not used", 1, impl.PageRecord{Data: []byte{0}}, 6, 1},
		{"1000 bytes, not used", 1, impl.PageRecord{Data: make([]byte, 1000)}, 6, 1},
		{"not used, where there is none", 1, impl.PageRecord{}, 6, 0},
	} {
		got := impl.PageSet(page, c.slot, c.r, c.lsn)
		if got.Code != c.want {
			t.Error(c.name, "has the code", got.Code)
		}
		if c.want != 0 && len(got.Page) != 0 {
			t.Error(c.name, "has a page beside the code")
		}
		if c.want == 0 && (impl.PageLSN(got.Page) != c.lsn || !sameRecord(impl.PageGet(got.Page, c.slot), c.r)) {
			t.Error(c.name, "is not told")
		}
	}
}

// TestPageSetBoundsAreFirst has records that are both out of bounds and too many.
func TestPageSetBoundsAreFirst(t *testing.T) {
	page := laidPage(3, 5, 148, slotEntry{0, 148, 948}, slotEntry{1, 1096, 1000}, slotEntry{2, 2096, 1000}, slotEntry{3, 3096, 1000})
	for _, got := range []impl.PageResult{
		impl.PageSet(page, 32, longRecord(1000, 1), 6),
		impl.PageSet(page, 4, longRecord(1001, 1), 6),
		impl.PageSet(page, 4, longRecord(1000, 1), -1),
		impl.PageSet(page, 4, impl.PageRecord{Data: make([]byte, 5)}, 6),
	} {
		if got.Code != 1 || len(got.Page) != 0 {
			t.Error("bounds and room are told as", got.Code)
		}
	}
	if got := impl.PageSet(page, 4, longRecord(1000, 1), 6); got.Code != 2 || len(got.Page) != 0 {
		t.Error("room alone is told as", got.Code)
	}
}

// anySet is mostly within the bounds.
func anySet(r *rand.Rand) (int64, impl.PageRecord, int64) {
	slot, lsn := int64(r.Intn(32)), r.Int63n(greatestLSN+1)
	record := impl.PageRecord{Used: true, Data: someBytes(r, anyLength(r))}
	switch r.Intn(20) {
	case 0, 1, 2, 3, 4:
		record = impl.PageRecord{}
	case 5:
		slot = int64(r.Intn(40) - 4)
	case 6:
		lsn = greatestLSN + int64(r.Intn(3))
	case 7:
		lsn = int64(r.Intn(3) - 1)
	case 8:
		record.Data = someBytes(r, 999+r.Intn(4))
	case 9:
		record.Used = false
	}
	return slot, record, lsn
}

// TestPageSetAgainAndAgain goes on with one page, and holds each slot against a plain list.
func TestPageSetAgainAndAgain(t *testing.T) {
	r := rand.New(rand.NewSource(35))
	var codes [3]int
	moved := 0
	for range 40 {
		number := int64(r.Intn(16))
		page := impl.PageNew(number)
		lsn := int64(0)
		var want [32]impl.PageRecord
		for range 150 {
			slot, record, next := anySet(r)
			got := impl.PageSet(page, slot, record, next)
			if got.Code != plainCode(page, slot, record, next) {
				t.Fatal("the code is", got.Code)
			}
			codes[got.Code]++
			if got.Code == 0 {
				if !bytes.Equal(got.Page, plainSet(page, int(slot), record, next)) {
					t.Fatal("the page is another one")
				}
				if bottomOf(got.Page) > bottomOf(page) {
					moved++
				}
				page, lsn, want[slot] = got.Page, next, record
			} else if len(got.Page) != 0 {
				t.Fatal("a page beside the code", got.Code)
			}
			holdAgainst(t, page, number, lsn, want)
		}
	}
	if min(codes[0], codes[1], codes[2], moved) < 100 {
		t.Error("codes and compactions came up", codes, moved, "times")
	}
}

func holdAgainst(t *testing.T, page []byte, number, lsn int64, want [32]impl.PageRecord) {
	t.Helper()
	if impl.PageFault(page, number) != 0 || impl.PageLSN(page) != lsn {
		t.Fatal("the page has a fault or another LSN")
	}
	total := 0
	for slot, record := range want {
		total += len(record.Data)
		if !sameRecord(impl.PageGet(page, int64(slot)), record) {
			t.Fatal("slot", slot, "is not as it was set")
		}
	}
	if impl.PageUsed(page) != int64(total) {
		t.Fatal("PageUsed is", impl.PageUsed(page))
	}
}

// TestPageSetOnAnyPages has gaps and orders that setting alone does not make.
func TestPageSetOnAnyPages(t *testing.T) {
	r := rand.New(rand.NewSource(36))
	for range 6000 {
		page := anyPage(r)
		slot, record, lsn := anySet(r)
		got, want := impl.PageSet(page, slot, record, lsn), plainCode(page, slot, record, lsn)
		if got.Code != want {
			t.Fatal("the code is", got.Code, "not", want)
		}
		if want == 0 && !bytes.Equal(got.Page, plainSet(page, int(slot), record, lsn)) {
			t.Fatalf("slot %d of %x becomes %x", slot, page[:148], got.Page[:148])
		}
	}
}

func TestPageSetLeavesTheSum(t *testing.T) {
	page := impl.PageNew(3)
	got := mustSet(t, page, 0, recordOf("abc"), 6)
	if !bytes.Equal(got[:4], page[:4]) || impl.PageWhole(got) {
		t.Error("the sum does not stay")
	}
	if sealed := impl.PageSeal(got); !impl.PageWhole(sealed) || !sameRecord(impl.PageGet(sealed, 0), recordOf("abc")) {
		t.Error("sealed behind a set")
	}
}
