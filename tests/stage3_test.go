package tests

import (
	"bytes"
	"math"
	"math/rand"
	"testing"

	"loop.example/s02544/impl"
)

const greatestLSN = 1099511627776

func TestPageNew(t *testing.T) {
	for number := range int64(16) {
		want := make([]byte, 4096)
		want[15] = byte(number)
		want[16], want[17] = 16, 0
		copy(want, impl.PutNumber(plainSum(want[4:]), 4))
		page := impl.PageNew(number)
		if !bytes.Equal(page, want) {
			t.Fatalf("PageNew(%d) is %x", number, page)
		}
		if impl.PageFault(page, number) != 0 || !impl.PageWhole(page) || impl.PageLSN(page) != 0 || impl.PageUsed(page) != 0 {
			t.Error("the new page", number)
		}
		for slot := range int64(32) {
			if r := impl.PageGet(page, slot); r.Used || len(r.Data) != 0 {
				t.Error("the new page", number, "has a record in", slot)
			}
		}
	}
	for _, number := range []int64{-1, 16, 17, 32, -16, 1 << 32, 1<<32 + 1, math.MaxInt64, math.MinInt64} {
		if page := impl.PageNew(number); len(page) != 0 {
			t.Error("there is a page", number)
		}
	}
}

func TestPageConstants(t *testing.T) {
	got := []int64{impl.PageSize, impl.PageSectors, impl.MaxPages, impl.Slots, impl.MaxRecord, impl.HeadSize, impl.HeapStart, impl.PageRoom, impl.MaxLSN}
	want := []int64{4096, 8, 16, 32, 1000, 20, 148, 3948, 1099511627776}
	for i, v := range want {
		if got[i] != v {
			t.Error("constant", i, "is", got[i])
		}
	}
}

// TestPageFaultsAlone has each fault on a page that has no other.
func TestPageFaultsAlone(t *testing.T) {
	for _, c := range []struct {
		name string
		page []byte
		want int64
	}{
		{"good", laidPage(3, 5, 4000), 0},
		{"4095 bytes", laidPage(3, 5, 4000)[:4095], 1},
		{"4097 bytes", append(laidPage(3, 5, 4000), 0), 1},
		{"no bytes", nil, 1},
		{"512 bytes", laidPage(3, 5, 4000)[:512], 1},
		{"8192 bytes", make([]byte, 8192), 1},
		{"number 2", laidPage(2, 5, 4000), 2},
		{"number 4", laidPage(4, 5, 4000), 2},
		{"number 3 in the second byte", laidPage(3<<8, 5, 4000), 2},
		{"number 3 and a high bit", laidPage(3|1<<31, 5, 4000), 2},
		{"LSN 0", laidPage(3, 0, 4000), 0},
		{"LSN MaxLSN", laidPage(3, greatestLSN, 4000), 0},
		{"LSN MaxLSN - 1", laidPage(3, greatestLSN-1, 4000), 0},
		{"LSN MaxLSN + 1", laidPage(3, greatestLSN+1, 4000), 3},
		{"LSN 2 to the 62", laidPage(3, 1<<62, 4000), 3},
		{"LSN 2 to the 63", laidPage(3, 1<<63, 4000), 3},
		{"LSN 2 to the 63 + 5", laidPage(3, 1<<63+5, 4000), 3},
		{"LSN of bits on", laidPage(3, math.MaxUint64, 4000), 3},
		{"bottom 148", laidPage(3, 5, 148), 0},
		{"bottom 4096", laidPage(3, 5, 4096), 0},
		{"bottom 147", laidPage(3, 5, 147), 4},
		{"bottom 4097", laidPage(3, 5, 4097), 4},
		{"bottom 0", laidPage(3, 5, 0), 4},
		{"bottom 65535", laidPage(3, 5, 65535), 4},
		{"bottom 32768", laidPage(3, 5, 32768), 4},
	} {
		if got := impl.PageFault(c.page, 3); got != c.want {
			t.Error(c.name, "has the fault", got)
		}
	}
	for _, at := range []int{zerosPlace, zerosPlace + 1} {
		for _, v := range []byte{1, 128, 255} {
			page := laidPage(3, 5, 4000)
			page[at] = v
			if got := impl.PageFault(page, 3); got != 3 {
				t.Error("byte", at, "as", v, "has the fault", got)
			}
		}
	}
}

func TestPageFaultsOfSlots(t *testing.T) {
	for _, c := range []struct {
		name   string
		bottom int
		slot   slotEntry
		want   int64
	}{
		{"no offset, a length of 1", 4000, slotEntry{0, 0, 1}, 5},
		{"no offset, a length of 1000", 4000, slotEntry{31, 0, 1000}, 5},
		{"no offset, the greatest length", 4000, slotEntry{16, 0, 65535}, 5},
		{"at the bottom", 4000, slotEntry{0, 4000, 10}, 0},
		{"a byte ahead of the bottom", 4000, slotEntry{0, 3999, 10}, 5},
		{"no bytes at the bottom", 4000, slotEntry{31, 4000, 0}, 0},
		{"no bytes ahead of the bottom", 4000, slotEntry{31, 3999, 0}, 5},
		{"in the head", 148, slotEntry{1, 1, 0}, 5},
		{"in the slots", 148, slotEntry{1, 147, 1}, 5},
		{"at HeapStart", 148, slotEntry{1, 148, 1000}, 0},
		{"no bytes at PageSize", 4000, slotEntry{2, 4096, 0}, 0},
		{"no bytes at PageSize, the bottom too", 4096, slotEntry{2, 4096, 0}, 0},
		{"a byte at PageSize", 4000, slotEntry{2, 4096, 1}, 5},
		{"no bytes behind PageSize", 4000, slotEntry{2, 4097, 0}, 5},
		{"the greatest offset", 4000, slotEntry{2, 65535, 0}, 5},
		{"ends at the end", 4000, slotEntry{3, 4090, 6}, 0},
		{"ends a byte behind the end", 4000, slotEntry{3, 4090, 7}, 5},
		{"the last byte", 4000, slotEntry{3, 4095, 1}, 0},
		{"1000 bytes to the end", 148, slotEntry{3, 3096, 1000}, 0},
		{"1000 bytes, a byte behind the end", 148, slotEntry{3, 3097, 1000}, 5},
		{"1000 bytes", 148, slotEntry{3, 200, 1000}, 0},
		{"1001 bytes", 148, slotEntry{3, 200, 1001}, 5},
		{"the greatest length", 148, slotEntry{3, 200, 65535}, 5},
		{"256 bytes more than 0 in the high half", 148, slotEntry{3, 256, 256}, 0},
	} {
		page := laidPage(3, 5, c.bottom, c.slot)
		if got := impl.PageFault(page, 3); got != c.want {
			t.Error(c.name, "has the fault", got)
		}
		if whole := impl.PageSeal(page); impl.PageFault(whole, 3) != c.want {
			t.Error(c.name, "is of another fault, if it is sealed")
		}
	}
}

func TestPageFaultsOfTwoRecords(t *testing.T) {
	for _, c := range []struct {
		name string
		a, b slotEntry
		want int64
	}{
		{"apart", slotEntry{0, 4000, 10}, slotEntry{1, 4011, 10}, 0},
		{"that touch", slotEntry{0, 4000, 10}, slotEntry{1, 4010, 10}, 0},
		{"that touch in the other order", slotEntry{0, 4010, 10}, slotEntry{31, 4000, 10}, 0},
		{"that share one byte", slotEntry{0, 4000, 10}, slotEntry{1, 4009, 10}, 6},
		{"that share one byte in the other order", slotEntry{0, 4009, 10}, slotEntry{31, 4000, 10}, 6},
		{"at one place", slotEntry{30, 4000, 10}, slotEntry{31, 4000, 10}, 6},
		{"that begin at one place", slotEntry{0, 4000, 10}, slotEntry{1, 4000, 1}, 6},
		{"that end at one place", slotEntry{0, 4000, 10}, slotEntry{1, 4009, 1}, 6},
		{"of which one is inside", slotEntry{5, 4000, 10}, slotEntry{9, 4003, 2}, 6},
		{"of which one is around", slotEntry{5, 4003, 2}, slotEntry{9, 4000, 10}, 6},
		{"of one byte, the same", slotEntry{5, 4003, 1}, slotEntry{9, 4003, 1}, 6},
		{"of no bytes inside another", slotEntry{5, 4003, 0}, slotEntry{9, 4000, 10}, 0},
		{"with one of no bytes inside", slotEntry{5, 4000, 10}, slotEntry{9, 4003, 0}, 0},
		{"of no bytes where another begins", slotEntry{5, 4000, 0}, slotEntry{9, 4000, 10}, 0},
		{"of no bytes where another ends", slotEntry{5, 4010, 0}, slotEntry{9, 4000, 10}, 0},
		{"of no bytes at one place", slotEntry{5, 4010, 0}, slotEntry{9, 4010, 0}, 0},
		{"of no bytes at the end", slotEntry{5, 4096, 0}, slotEntry{9, 4096, 0}, 0},
	} {
		if got := impl.PageFault(laidPage(3, 5, 4000, c.a, c.b), 3); got != c.want {
			t.Error("records", c.name, "have the fault", got)
		}
		other := slotEntry{17, 3900, 100} // touches the one ahead of all
		if got := impl.PageFault(laidPage(3, 5, 3900, other, c.a, c.b), 3); got != c.want {
			t.Error("with a third, records", c.name, "have the fault", got)
		}
	}
}

// TestPageFaultOfEachPair lets each two slots share a byte.
func TestPageFaultOfEachPair(t *testing.T) {
	for a := range 32 {
		for b := range 32 {
			page := laidPage(3, 5, 148)
			for i := range 32 {
				putSlot(page, i, 1000+50*i, 50)
			}
			if impl.PageFault(page, 3) != 0 {
				t.Fatal("records that touch all have a fault")
			}
			putSlot(page, a, 1000+50*b, 50)
			want := int64(6)
			if a == b {
				want = 0
			}
			if got := impl.PageFault(page, 3); got != want {
				t.Fatal("slots", a, b, "have the fault", got)
			}
		}
	}
}

// TestPageFaultsTheFirst breaks a page in two ways, in either order.
func TestPageFaultsTheFirst(t *testing.T) {
	breaks := []func(page []byte) []byte{
		1: func(page []byte) []byte { return append(page, 1) },
		2: func(page []byte) []byte { putOwn(page, 9); return page },
		3: func(page []byte) []byte { putLSN(page, 1<<50); return page },
		4: func(page []byte) []byte { putBottom(page, 5000); return page },
		5: func(page []byte) []byte { putSlot(page, 20, 0, 7); return page },
		6: func(page []byte) []byte {
			putSlot(page, 0, 4093, 2)
			putSlot(page, 1, 4094, 2)
			return page
		},
	}
	more := map[int][]func(page []byte) []byte{
		1: {func(page []byte) []byte { return page[:4095] }},
		3: {func(page []byte) []byte { page[zerosPlace+1] = 3; return page }},
		4: {func(page []byte) []byte { putBottom(page, 100); return page }},
		5: {func(page []byte) []byte { putSlot(page, 21, 4096, 1); return page }},
	}
	for i := 1; i <= 6; i++ {
		for j := 1; j <= 6; j++ {
			for _, first := range append(more[i], breaks[i]) {
				for _, second := range append(more[j], breaks[j]) {
					page := second(first(laidPage(3, 5, 4000)))
					if got := impl.PageFault(page, 3); got != int64(min(i, j)) && !(i == 1 && j == 1) {
						t.Error("faults", i, j, "are told as", got)
					}
				}
			}
		}
	}
}

func TestPageFaultNumbers(t *testing.T) {
	for _, own := range []uint32{0, 1, 15, 16, 255, 256, 1 << 16, 1 << 31, math.MaxUint32} {
		page := laidPage(own, 5, 4000, slotEntry{3, 4000, 5})
		n := int64(own)
		if got := impl.PageFault(page, n); got != 0 {
			t.Error("the page of its own number", own, "has the fault", got)
		}
		for _, number := range []int64{-1, -2, n - 1, n + 1, n + 1<<32, n - 1<<32, n + 1<<62, math.MaxInt64, math.MinInt64} {
			if got := impl.PageFault(page, number); got != 2 {
				t.Error("the page", own, "as", number, "has the fault", got)
			}
		}
		if impl.PageLSN(page) != 5 || impl.PageUsed(page) != 5 || !impl.PageGet(page, 3).Used || len(impl.PageCompact(page)) != 4096 {
			t.Error("the page", own, "is well-formed, but not told")
		}
		if r := impl.PageSet(page, 3, recordOf("x"), 6); r.Code != 0 || impl.PageFault(r.Page, n) != 0 {
			t.Error("the page", own, "is not set")
		}
	}
}

// TestPageFaultsOfAnyPages turns one or two bytes of the parts that matter.
func TestPageFaultsOfAnyPages(t *testing.T) {
	r := rand.New(rand.NewSource(31))
	var seen [7]int
	for range 30000 {
		page := anyPage(r)
		number := ownOf(page)
		if got := impl.PageFault(page, number); got != 0 {
			t.Fatalf("a page without fault has %d: %x", got, page[:148])
		}
		for range r.Intn(3) {
			at := 4 + r.Intn(144)
			if r.Intn(2) == 0 {
				at = 16 + r.Intn(20)
			}
			if r.Intn(2) == 0 {
				page[at] ^= 1 << r.Intn(8)
			} else {
				page[at] = byte(r.Intn(256))
			}
		}
		got, want := impl.PageFault(page, number), plainFault(page, number)
		if got != want {
			t.Fatalf("the fault is %d, not %d: %x", got, want, page[:148])
		}
		seen[want]++
	}
	for want, n := range seen {
		if n < 30 && want != 1 {
			t.Error("the fault", want, "came up", n, "times")
		}
	}
}

func TestPageSeal(t *testing.T) {
	r := rand.New(rand.NewSource(32))
	pages := [][]byte{make([]byte, 4096), someBytes(r, 4096), bytes.Repeat([]byte{255}, 4096), laidPage(3, 5, 4000), anyPage(r)}
	for _, f := range faultyPages() {
		pages = append(pages, f.page)
	}
	for _, page := range pages {
		sealed := impl.PageSeal(page)
		if len(page) != 4096 {
			if len(sealed) != 0 || impl.PageWhole(page) {
				t.Error("a page of", len(page), "bytes is sealed or whole")
			}
			continue
		}
		sum := impl.PutNumber(plainSum(page[4:]), 4)
		if len(sealed) != 4096 || !bytes.Equal(sealed[4:], page[4:]) || !bytes.Equal(sealed[:4], sum) {
			t.Fatalf("PageSeal is %x", sealed[:20])
		}
		if !impl.PageWhole(sealed) || impl.PageWhole(page) != bytes.Equal(page[:4], sum) || !bytes.Equal(impl.PageSeal(sealed), sealed) {
			t.Error("PageWhole of a page that is sealed")
		}
		for _, n := range []int{0, 4, 512, 4095} {
			if impl.PageWhole(sealed[:n]) {
				t.Error("the first", n, "bytes are whole")
			}
		}
		if impl.PageWhole(append(sealed[:4096:4096], 0)) {
			t.Error("a byte more is whole")
		}
	}
}

func TestPageWholeFindsATurnedBit(t *testing.T) {
	page := impl.PageSeal(laidPage(3, 5, 4000))
	for at := range page {
		for bit := range 8 {
			if at > 160 && at < 3990 && bit != at%8 {
				continue
			}
			page[at] ^= 1 << bit
			if impl.PageWhole(page) {
				t.Fatal("bit", bit, "of byte", at, "may be turned")
			}
			page[at] ^= 1 << bit
		}
	}
	if !impl.PageWhole(page) {
		t.Error("all bits turned back")
	}
}

func TestPagesThatAreNotWellFormed(t *testing.T) {
	for _, f := range faultyPages() {
		if len(f.page) == 4096 && impl.PageFault(f.page, ownOf(f.page)) == 0 {
			t.Error(f.name, "has no fault")
		}
		if got := impl.PageLSN(f.page); got != -1 {
			t.Error(f.name, "has the LSN", got)
		}
		if got := impl.PageUsed(f.page); got != -1 {
			t.Error(f.name, "has used", got)
		}
		if len(impl.PageCompact(f.page)) != 0 {
			t.Error(f.name, "is compacted")
		}
		for _, slot := range []int64{math.MinInt64, -1, 0, 4, 31, 32, math.MaxInt64} {
			if r := impl.PageGet(f.page, slot); r.Used || len(r.Data) != 0 {
				t.Error(f.name, "has a record in", slot)
			}
			for _, record := range []impl.PageRecord{{}, recordOf("x"), longRecord(1000, 1), longRecord(1001, 1)} {
				if got := impl.PageSet(f.page, slot, record, 6); got.Code != 1 || len(got.Page) != 0 {
					t.Error(f.name, "is set with the code", got.Code)
				}
			}
		}
		if sealed := impl.PageSeal(f.page); len(sealed) == 4096 && impl.PageLSN(sealed) != -1 {
			t.Error(f.name, "is well-formed, if it is sealed")
		}
	}
}

func TestPageGet(t *testing.T) {
	page := laidPage(3, 5, 3000, slotEntry{0, 3000, 1000}, slotEntry{1, 4095, 1}, slotEntry{2, 4000, 0}, slotEntry{31, 4010, 20}, slotEntry{30, 4096, 0})
	for slot := range int64(32) {
		r := impl.PageGet(page, slot)
		s := slotOf(page, int(slot))
		if r.Used != (s.offset != 0) || !bytes.Equal(r.Data, page[s.offset:s.offset+s.length]) {
			t.Error("slot", slot, "has", r)
		}
	}
	if impl.PageLSN(page) != 5 || impl.PageUsed(page) != 1021 {
		t.Error("LSN and length of all")
	}
	for _, slot := range []int64{-1, -32, 32, 33, 64, 1 << 32, -1 << 32, math.MaxInt64, math.MinInt64} {
		if r := impl.PageGet(page, slot); r.Used || len(r.Data) != 0 {
			t.Error("there is a slot", slot)
		}
	}
}

func TestPageLSNs(t *testing.T) {
	for _, lsn := range []int64{0, 1, 255, 256, 1 << 20, 1 << 39, greatestLSN - 1, greatestLSN} {
		if got := impl.PageLSN(laidPage(3, uint64(lsn), 4000)); got != lsn {
			t.Error("the LSN", lsn, "is", got)
		}
	}
}
