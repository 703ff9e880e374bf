package tests

import (
	"bytes"
	"math/rand"
	"slices"
	"testing"

	"loop.example/s02544/impl"
)

// holdHeap asks for exactly these records, and for the lengths that they have.
func holdHeap(t *testing.T, name string, d impl.Disk, g impl.Geometry, records []impl.HeapRecord) {
	t.Helper()
	if got := impl.Heap(d, g); !sameHeap(got, impl.HeapResult{Good: true, Records: records}) {
		t.Error("Heap of", name, "is", got.Good, "with", len(got.Records), "records and not", len(records))
	}
	lengths := bare(int(g.Pages))
	for _, r := range records {
		lengths[r.Id] = int64(len(r.Data))
	}
	if got := impl.Lengths(d, g); !slices.Equal(got, lengths) {
		t.Error("Lengths of", name, "are", got, "and not", lengths)
	}
}

func holdNoHeap(t *testing.T, name string, d impl.Disk, g impl.Geometry) {
	t.Helper()
	if got := impl.Heap(d, g); !isZeroHeap(got) {
		t.Error("Heap of", name, "is", got.Good, "with", len(got.Records), "records")
	}
	if got := impl.Lengths(d, g); len(got) != 0 {
		t.Error("Lengths of", name, "are", got)
	}
}

func TestHeapOfOneRecord(t *testing.T) {
	for _, g := range []impl.Geometry{smallest(1), smallest(2), smallest(16), {Pages: 16, Frames: 16, LogSectors: 800}} {
		for _, page := range []int64{0, g.Pages / 2, g.Pages - 1} {
			for _, slot := range []int{0, 1, 30, 31} {
				for _, text := range []string{"", "x", "some bytes", textOf(999, 'p'), textOf(1000, 'q')} {
					one := map[int]string{slot: text}
					d := laidInto(impl.Format(g), g, page, pageOf(page, one))
					holdHeap(t, "one record", d, g, recordsOf(page, one))
				}
			}
		}
	}
}

func TestHeapOfManyRecords(t *testing.T) {
	g := smallest(4)
	first := map[int]string{0: "zero", 3: "", 31: textOf(1000, 'a'), 17: textOf(1000, 'b')}
	third := map[int]string{0: textOf(1000, 'c'), 1: "", 2: "", 30: "thirty"}
	last := map[int]string{31: "the last"}
	d := impl.Format(g)
	for page, texts := range map[int64]map[int]string{0: first, 2: third, 3: last} {
		d = laidInto(d, g, page, pageOf(page, texts))
	}
	holdHeap(t, "many records", d, g, slices.Concat(recordsOf(0, first), recordsOf(2, third), recordsOf(3, last)))
	want := []int64{0, 3, 17, 31, 64, 65, 66, 94, 127}
	for i, r := range impl.Heap(d, g).Records {
		if r.Id != want[i] {
			t.Error("the record", i, "has the id", r.Id, "and not", want[i])
		}
	}
	if l := impl.Lengths(d, g); l[0] != 4 || l[1] != -1 || l[3] != 0 || l[31] != 1000 || l[32] != -1 || l[64] != 1000 || l[65] != 0 || l[126] != -1 || l[127] != 8 {
		t.Error("Lengths of many records are", l)
	}
}

// TestHeapOfAllIds has a record in each slot of each page.
func TestHeapOfAllIds(t *testing.T) {
	for _, g := range []impl.Geometry{smallest(1), smallest(16)} {
		d := impl.Format(g)
		var records []impl.HeapRecord
		for page := range g.Pages {
			all := map[int]string{}
			for slot := range slotsEach {
				all[slot] = textOf((slot*7+int(page))%123, byte(slot)+byte(page))
			}
			d = laidInto(d, g, page, pageOf(page, all))
			records = append(records, recordsOf(page, all)...)
		}
		holdHeap(t, "a full heap", d, g, records)
	}
}

// TestHeapOfLaidPages has records that do not stand in the order of their slots, with gaps and remains between them.
func TestHeapOfLaidPages(t *testing.T) {
	g := smallest(2)
	laid := plainSeal(laidPage(1, greatestLSN, 148, slotEntry{31, 148, 1000}, slotEntry{2, 3000, 10}, slotEntry{7, 2000, 1000}, slotEntry{8, 4096, 0}, slotEntry{9, 148, 0}))
	d := laidInto(impl.Format(g), g, 1, laid)
	holdHeap(t, "a page laid by hand", d, g, []impl.HeapRecord{
		{Id: 34, Data: laid[3000:3010]}, {Id: 39, Data: laid[2000:3000]}, {Id: 40}, {Id: 41}, {Id: 63, Data: laid[148:1148]},
	})
	given := impl.PageSeal(impl.PageSet(pageOf(1, map[int]string{4: "gone", 5: "stays"}), 4, impl.PageRecord{}, 700).Page)
	holdHeap(t, "a record given up", laidInto(d, g, 1, given), g, []impl.HeapRecord{{Id: 37, Data: []byte("stays")}})
}

func TestHeapOfPagesThatAreNotWhole(t *testing.T) {
	texts := map[int]string{0: textOf(1000, 'a'), 1: "b", 31: textOf(500, 'c')}
	for _, g := range []impl.Geometry{smallest(1), smallest(3)} {
		good := impl.Format(g)
		for page := range g.Pages {
			good = laidInto(good, g, page, pageOf(page, texts))
		}
		for _, page := range []int64{0, g.Pages - 1} {
			b := pageOf(page, texts)
			// The sum, the LSN, the number, the bottom, slots, free room, records, the end.
			for _, at := range []int{0, 1, 3, 4, 11, 15, 16, 17, 20, 24, 147, 148, 1500, 3000, 4094, 4095} {
				for bit := range 8 {
					c := bytes.Clone(b)
					c[at] ^= 1 << bit
					holdNoHeap(t, "a page with a turned bit", laidInto(good, g, page, c), g)
				}
			}
			holdNoHeap(t, "a page of bytes 0", laidInto(good, g, page, make([]byte, pageEnd)), g)
			unsealed := impl.PageSet(b, 1, recordOf("other"), 800).Page
			holdNoHeap(t, "a page that is not sealed", laidInto(good, g, page, unsealed), g)
			if !impl.Heap(laidInto(good, g, page, impl.PageSeal(unsealed)), g).Good {
				t.Error("the same page sealed is not good")
			}
		}
	}
}

func TestHeapOfPagesThatAreNotWellFormed(t *testing.T) {
	for _, g := range []impl.Geometry{smallest(1), smallest(3)} {
		tried := 0
		for _, page := range []int64{0, g.Pages - 1} {
			for _, f := range faultyPages() {
				if len(f.page) != pageEnd {
					continue
				}
				c := bytes.Clone(f.page)
				putOwn(c, uint32(page))
				c = plainSeal(c)
				d := laidInto(impl.Format(g), g, page, c)
				if !impl.PageWhole(impl.ReadPage(d, g, page)) {
					t.Fatal("the test's own page is not whole:", f.name)
				}
				holdNoHeap(t, f.name, d, g)
				tried++
			}
		}
		if tried < 30 {
			t.Error("only", tried, "faulty pages")
		}
	}
}

func TestHeapOfPagesWithOtherNumbers(t *testing.T) {
	for _, g := range []impl.Geometry{smallest(1), smallest(2), smallest(16)} {
		for _, page := range []int64{0, g.Pages - 1} {
			for _, own := range []uint32{0, 1, uint32(g.Pages - 1), uint32(g.Pages), 15, 16, 256 + uint32(page), 1<<31 + uint32(page), 1<<32 - 1} {
				b := plainNewPage(page)
				putOwn(b, own)
				d := laidInto(impl.Format(g), g, page, plainSeal(b))
				if int64(own) == page {
					holdHeap(t, "a page with its own number", d, g, nil)
				} else {
					holdNoHeap(t, "a page with another's number", d, g)
				}
			}
		}
	}
	g := smallest(2)
	swapped := laidInto(laidInto(impl.Format(g), g, 0, plainNewPage(1)), g, 1, plainNewPage(0))
	holdNoHeap(t, "two pages in each other's places", swapped, g)
}

// TestHeapAsksForPagesAlone has other bytes in master and log: they play no part here.
func TestHeapAsksForPagesAlone(t *testing.T) {
	g := smallest(2)
	texts := map[int]string{3: "three"}
	d := laidInto(markedHeap(g), g, 0, pageOf(0, texts))
	d = laidInto(d, g, 1, plainNewPage(1))
	holdHeap(t, "a disk without master and log", d, g, recordsOf(0, texts))
	d.Pending = []impl.SectorWrite{writeTo(0, 1), writeTo(1, 2), writeTo(2, 3), writeTo(plainPageSector(g, 0)-1, 4)}
	holdHeap(t, "a disk with pending writes ahead of the pages", d, g, recordsOf(0, texts))
}

func TestHeapWithPendingWrites(t *testing.T) {
	// Both are full, so that no sector of one is that of the other.
	older := map[int]string{0: textOf(1000, 'a'), 1: textOf(1000, 'b'), 2: textOf(1000, 'c'), 3: textOf(900, 'd')}
	newer := map[int]string{0: textOf(1000, 'A'), 1: textOf(1000, 'B'), 4: textOf(1000, 'C'), 30: textOf(948, 'D'), 31: ""}
	for _, g := range []impl.Geometry{smallest(1), smallest(3)} {
		for _, page := range []int64{0, g.Pages - 1} {
			was, is := pageOf(page, older), pageOf(page, newer)
			d := laidInto(impl.Format(g), g, page, was)
			pending := pendingInto(d, g, page, is, allSectors()...)
			holdHeap(t, "a page that is all pending", pending, g, recordsOf(page, newer))
			holdHeap(t, "a page that is all durable", impl.DiskSync(pending), g, recordsOf(page, newer))
			holdHeap(t, "a page that was pending and is lost", impl.DiskCrash(pending, nil), g, recordsOf(page, older))
			holdNoHeap(t, "a page with its first sector pending", pendingInto(d, g, page, is, 0), g)
			holdNoHeap(t, "a page with its last sector pending", pendingInto(d, g, page, is, 7), g)
			holdNoHeap(t, "a page with all but one sector pending", pendingInto(d, g, page, is, 0, 1, 2, 4, 5, 6, 7), g)
			holdHeap(t, "two writes into each sector", pendingInto(pending, g, page, was, allSectors()...), g, recordsOf(page, older))
			holdNoHeap(t, "a second write into one sector", pendingInto(pending, g, page, was, 7), g)
			broken := laidInto(d, g, page, is[:3*sectorSize])
			holdNoHeap(t, "a torn page", broken, g)
			holdHeap(t, "a torn page that pending writes make the old one", pendingInto(broken, g, page, was, 0, 1, 2), g, recordsOf(page, older))
			holdHeap(t, "a torn page that pending writes make the new one", pendingInto(broken, g, page, is, 7, 6, 5, 4, 3), g, recordsOf(page, newer))
			holdNoHeap(t, "one that is lost again", impl.DiskCrash(pendingInto(broken, g, page, was, 0, 1, 2), []int64{1, 0, 1}), g)
		}
	}
}

// TestOneFaultSpoilsAll has records in all pages but the one that is at fault, wherever that stands.
func TestOneFaultSpoilsAll(t *testing.T) {
	g := smallest(16)
	good := impl.Format(g)
	var records []impl.HeapRecord
	for page := range g.Pages {
		texts := map[int]string{int(page): "here", 31 - int(page): ""}
		good = laidInto(good, g, page, pageOf(page, texts))
		records = append(records, recordsOf(page, texts)...)
	}
	holdHeap(t, "all pages good", good, g, records)
	for page := range g.Pages {
		c := bytes.Clone(plainReadPage(good, g, page))
		c[2000] ^= 64
		holdNoHeap(t, "one page at fault", laidInto(good, g, page, c), g)
		holdNoHeap(t, "one page at fault by a pending write", pendingInto(good, g, page, c, 3), g)
		spoilt := laidInto(good, g, page, c)
		holdHeap(t, "the fault written over", pendingInto(spoilt, g, page, plainReadPage(good, g, page), 3), g, records)
	}
}

func TestHeapOfAnotherGeometry(t *testing.T) {
	// Both have 60 sectors, but the log is longer, and the pages are fewer.
	g, other := smallest(2), impl.Geometry{Pages: 1, Frames: 3, LogSectors: 50}
	if impl.DiskSectors(g) != impl.DiskSectors(other) {
		t.Fatal("the test's own geometries")
	}
	d := impl.Format(g)
	holdNoHeap(t, "the last page of two, read as the only one", d, other)
	if !bytes.Equal(impl.ReadPage(d, other, 0), impl.PageNew(1)) || len(impl.ReadPage(d, other, 1)) != 0 {
		t.Error("a page of another geometry")
	}
	holdNoHeap(t, "the page of one, read as the last of two", impl.Format(other), g)
}

func TestHeapOfChangedPages(t *testing.T) {
	r := rand.New(rand.NewSource(103))
	g := smallest(3)
	d := impl.Format(g)
	plain := map[int64][]byte{}
	for lsn := int64(600); lsn < 900; lsn++ {
		id := r.Int63n(g.Pages * slotsEach)
		rec := longRecord(r.Intn(200), byte(r.Intn(256)))
		if r.Intn(3) == 0 {
			rec = impl.PageRecord{}
		}
		p := impl.PageSet(impl.ReadPage(d, g, id/slotsEach), id%slotsEach, rec, lsn)
		if p.Code != 0 {
			continue
		}
		d = impl.RunOps(d, impl.PageOps(g, id/slotsEach, impl.PageSeal(p.Page)), -1).Disk
		delete(plain, id)
		if rec.Used {
			plain[id] = rec.Data
		}
		if r.Intn(10) == 0 {
			d = impl.DiskSync(d)
		}
		var records []impl.HeapRecord
		for i := range g.Pages * slotsEach {
			if data, ok := plain[i]; ok {
				records = append(records, impl.HeapRecord{Id: i, Data: data})
			}
		}
		holdHeap(t, "a heap that is changed", d, g, records)
	}
	if len(plain) < 10 {
		t.Error("the test's own run has only", len(plain), "records")
	}
}

func TestHeapOfAnyPages(t *testing.T) {
	r := rand.New(rand.NewSource(104))
	seen := map[bool]int{}
	for range 300 {
		g := smallest(1 + r.Int63n(4))
		g.LogSectors += r.Int63n(20)
		d := anyHeapDisk(r, g)
		want := plainHeap(d, g)
		seen[want.Good]++
		if got := impl.Heap(d, g); !sameHeap(got, want) {
			t.Fatal("Heap is", got.Good, "with", len(got.Records), "records and not", want.Good, len(want.Records))
		}
		if got := impl.Lengths(d, g); !slices.Equal(got, plainHeapLengths(d, g)) {
			t.Fatal("Lengths are", got)
		}
		for page := int64(-1); page <= g.Pages; page++ {
			if !bytes.Equal(impl.ReadPage(d, g, page), plainReadPage(d, g, page)) {
				t.Fatal("ReadPage of", page)
			}
		}
	}
	if seen[true] < 50 || seen[false] < 50 {
		t.Error("the test's own disks are good or not:", seen)
	}
}

// TestLengthsAreAListOfLengths is what the ledger asks for.
func TestLengthsAreAListOfLengths(t *testing.T) {
	g := smallest(2)
	texts := map[int]string{0: textOf(1000, 'a'), 1: textOf(1000, 'b'), 2: textOf(1000, 'c'), 3: textOf(948, 'd'), 4: ""}
	d := laidInto(impl.Format(g), g, 1, pageOf(1, texts))
	l := impl.Lengths(d, g)
	if impl.RoomLeft(l, nil, 0) != impl.PageRoom || impl.RoomLeft(l, nil, 1) != 0 {
		t.Error("the room of the lengths is", impl.RoomLeft(l, nil, 0), impl.RoomLeft(l, nil, 1))
	}
	for page := range g.Pages {
		if got, want := impl.RoomLeft(l, nil, page), impl.PageRoom-impl.PageUsed(impl.ReadPage(d, g, page)); got != want {
			t.Error("the room of the page", page, "is", got, "and not", want)
		}
	}
	if got := impl.FreshId(l, nil, nil, 1, 1000); got != 0 {
		t.Error("the first free id is", got)
	}
}
