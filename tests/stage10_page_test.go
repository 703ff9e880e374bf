package tests

import (
	"bytes"
	"math"
	"math/rand"
	"testing"

	"loop.example/s02544/impl"
)

// markedHeap is a disk of this geometry of whose bytes no two sectors are alike.
func markedHeap(g impl.Geometry) impl.Disk {
	d := impl.NewDisk(plainDiskSectors(g))
	for i := range d.Durable {
		d.Durable[i] = byte(1 + (i/sectorSize*31+i*7)%255)
	}
	return d
}

func TestReadPageOfDurableBytes(t *testing.T) {
	for _, g := range []impl.Geometry{smallest(1), smallest(3), {Pages: 16, Frames: 16, LogSectors: 800}} {
		d := markedHeap(g)
		first := (2 + g.LogSectors) * sectorSize
		for page := range g.Pages {
			at := first + page*pageEnd
			if got := impl.ReadPage(d, g, page); !bytes.Equal(got, d.Durable[at:at+pageEnd]) {
				t.Error("ReadPage of", g, page, "is not what stands there")
			}
		}
		for _, page := range []int64{-1, g.Pages, g.Pages + 1, math.MaxInt64, math.MinInt64} {
			if got := impl.ReadPage(d, g, page); len(got) != 0 {
				t.Error("ReadPage of", g, page, "has", len(got), "bytes")
			}
		}
	}
}

// TestReadPageSeesPendingWrites has each choice of the page's sectors pending.
func TestReadPageSeesPendingWrites(t *testing.T) {
	g := smallest(3)
	base := markedHeap(g)
	newer := bytes.Repeat([]byte{0, 7, 0, 9}, pageEnd/4)
	for _, page := range []int64{0, 1, 2} {
		for choice := range 256 {
			var chosen []int64
			want := bytes.Clone(plainReadPage(base, g, page))
			for i := range int64(sectorsEach) {
				if choice>>i&1 == 1 {
					chosen = append(chosen, i)
					copy(want[i*sectorSize:(i+1)*sectorSize], newer)
				}
			}
			d := pendingInto(base, g, page, newer, chosen...)
			for p := range g.Pages {
				if p != page {
					if !bytes.Equal(impl.ReadPage(d, g, p), plainReadPage(base, g, p)) {
						t.Fatal("writes into the page", page, "are seen in", p)
					}
					continue
				}
				if !bytes.Equal(impl.ReadPage(d, g, p), want) {
					t.Fatal("the page", page, "with the sectors", chosen, "pending")
				}
			}
		}
	}
}

func TestReadPageSeesTheLastWrite(t *testing.T) {
	g := smallest(2)
	one, two := bytes.Repeat([]byte{11}, pageEnd), bytes.Repeat([]byte{22}, pageEnd)
	for i := range int64(sectorsEach) {
		d := pendingInto(markedHeap(g), g, 1, one, i)
		d = pendingInto(d, g, 1, two, i)
		want := bytes.Clone(plainReadPage(markedHeap(g), g, 1))
		copy(want[i*sectorSize:(i+1)*sectorSize], two)
		if !bytes.Equal(impl.ReadPage(d, g, 1), want) {
			t.Error("the first of two writes into the sector", i, "is seen")
		}
		d = pendingInto(d, g, 1, one, i)
		copy(want[i*sectorSize:(i+1)*sectorSize], one)
		if !bytes.Equal(impl.ReadPage(d, g, 1), want) {
			t.Error("the last of three writes into the sector", i, "is not seen")
		}
	}
}

// TestReadPageBetweenItsNeighbours has writes into the sectors right ahead of the page and right behind it.
func TestReadPageBetweenItsNeighbours(t *testing.T) {
	g := smallest(3)
	d := markedHeap(g)
	want := bytes.Clone(impl.ReadPage(d, g, 1))
	at := plainPageSector(g, 1)
	d.Pending = append(d.Pending, writeTo(at-1, 5), writeTo(at+8, 6), writeTo(0, 7), writeTo(2, 8))
	if !bytes.Equal(impl.ReadPage(d, g, 1), want) {
		t.Error("writes beside a page are seen in it")
	}
	if got := impl.ReadPage(d, g, 0); !bytes.Equal(got[7*sectorSize:], filled(5)) {
		t.Error("a write into the last sector of the page 0 is not seen")
	}
	if got := impl.ReadPage(d, g, 2); !bytes.Equal(got[:sectorSize], filled(6)) {
		t.Error("a write into the first sector of the page 2 is not seen")
	}
}

// wrongDisks are none of this geometry, each for one reason.
func wrongDisks(g impl.Geometry) []namedDisk {
	good := impl.Format(g)
	with := func(change func(d *impl.Disk)) impl.Disk {
		d := copyOf(good)
		change(&d)
		return d
	}
	list := []namedDisk{
		{"a sector less", with(func(d *impl.Disk) { d.Durable = d.Durable[:len(d.Durable)-sectorSize] })},
		{"a sector more", with(func(d *impl.Disk) { d.Durable = append(d.Durable, make([]byte, sectorSize)...) })},
		{"a page less", with(func(d *impl.Disk) { d.Durable = d.Durable[:len(d.Durable)-pageEnd] })},
		{"a page more", with(func(d *impl.Disk) { d.Durable = append(d.Durable, plainNewPage(g.Pages)...) })},
		{"a byte less", with(func(d *impl.Disk) { d.Durable = d.Durable[:len(d.Durable)-1] })},
		{"a byte more", with(func(d *impl.Disk) { d.Durable = append(d.Durable, 0) })},
		{"a write behind the last sector", with(func(d *impl.Disk) { d.Pending = append(d.Pending, writeTo(plainDiskSectors(g), 1)) })},
		{"a write ahead of the first sector", with(func(d *impl.Disk) { d.Pending = append(d.Pending, writeTo(-1, 1)) })},
		{"a short write", with(func(d *impl.Disk) {
			d.Pending = append(d.Pending, impl.SectorWrite{Sector: 1, Data: make([]byte, sectorSize-1)})
		})},
		{"a long write", with(func(d *impl.Disk) {
			d.Pending = append(d.Pending, impl.SectorWrite{Sector: 1, Data: make([]byte, sectorSize+1)})
		})},
		{"a write too many", with(func(d *impl.Disk) { d.Pending = manyWrites(impl.MaxPending+1, 2) })},
		{"one sector", impl.NewDisk(1)},
		{"the most sectors", impl.NewDisk(impl.MaxSectors)},
	}
	return append(list, faultyDisks()...)
}

func TestDisksOfAnotherForm(t *testing.T) {
	for _, g := range []impl.Geometry{smallest(1), smallest(2), smallest(16)} {
		for _, d := range wrongDisks(g) {
			if h := impl.Heap(d.disk, g); !isZeroHeap(h) {
				t.Error("Heap of", d.name, "is", h)
			}
			if l := impl.Lengths(d.disk, g); len(l) != 0 {
				t.Error("Lengths of", d.name, "are", l)
			}
			for _, page := range []int64{-1, 0, g.Pages - 1, g.Pages} {
				if b := impl.ReadPage(d.disk, g, page); len(b) != 0 {
					t.Error("ReadPage of", d.name, page, "has", len(b), "bytes")
				}
			}
		}
	}
}

// TestMostPendingWrites has a disk that is just valid.
func TestMostPendingWrites(t *testing.T) {
	g := smallest(2)
	d := impl.Format(g)
	d.Pending = manyWrites(impl.MaxPending-sectorsEach, 2)
	page := pageOf(1, map[int]string{9: "nine"})
	d = pendingInto(d, g, 1, page, allSectors()...)
	if !bytes.Equal(impl.ReadPage(d, g, 1), page) {
		t.Error("a page behind the most pending writes")
	}
	if h := impl.Heap(d, g); !sameHeap(h, impl.HeapResult{Good: true, Records: recordsOf(1, map[int]string{9: "nine"})}) {
		t.Error("a heap behind the most pending writes is", h)
	}
}

func TestPageOpsOneByOne(t *testing.T) {
	r := rand.New(rand.NewSource(101))
	for _, g := range []impl.Geometry{smallest(1), smallest(2), {Pages: 16, Frames: 16, LogSectors: 800}} {
		for _, page := range []int64{0, g.Pages / 2, g.Pages - 1} {
			b := someBytes(r, pageEnd)
			ops := impl.PageOps(g, page, b)
			if len(ops) != sectorsEach {
				t.Fatal("PageOps of", g, page, "are", len(ops))
			}
			for i, op := range ops {
				if op.Kind != impl.OpWrite || op.Sector != 2+g.LogSectors+8*page+int64(i) || !bytes.Equal(op.Data, b[i*512:i*512+512]) {
					t.Error("the operation", i, "of", g, page)
				}
			}
		}
	}
}

func TestPageOpsOfOtherLengths(t *testing.T) {
	g := smallest(2)
	for _, n := range []int{0, 1, sectorSize, pageEnd - sectorSize, pageEnd - 1, pageEnd + 1, pageEnd + sectorSize, 2 * pageEnd} {
		for _, page := range []int64{0, 1} {
			if got := impl.PageOps(g, page, make([]byte, n)); len(got) != 0 {
				t.Error("PageOps of", n, "bytes are", len(got))
			}
		}
	}
	if len(impl.PageOps(g, 0, nil)) != 0 || len(impl.PageOps(g, 1, make([]byte, pageEnd))) != sectorsEach {
		t.Error("PageOps of nil, or of a page of bytes 0")
	}
}

// TestPageOpsAndReadPage writes any bytes into each page in turn, over durable bytes and over pending ones.
func TestPageOpsAndReadPage(t *testing.T) {
	r := rand.New(rand.NewSource(102))
	for _, g := range []impl.Geometry{smallest(1), smallest(4), {Pages: 16, Frames: 3, LogSectors: 800}} {
		d := markedHeap(g)
		for round := range 2 {
			for page := range g.Pages {
				b := someBytes(r, pageEnd)
				e := impl.RunOps(d, impl.PageOps(g, page, b), -1)
				if !e.Done || e.Used != sectorsEach {
					t.Fatal("the operations of a page are not all done")
				}
				heldAgainst(t, d, e.Disk, g, page, b)
				heldAgainst(t, d, impl.DiskSync(e.Disk), g, page, b)
				if d = e.Disk; round == 0 && page%2 == 0 {
					d = impl.DiskSync(d)
				}
			}
		}
	}
}

// heldAgainst asks whether the page alone is another in the later disk, and is these bytes.
func heldAgainst(t *testing.T, early, late impl.Disk, g impl.Geometry, page int64, b []byte) {
	t.Helper()
	for p := range g.Pages {
		want := impl.ReadPage(early, g, p)
		if p == page {
			want = b
		}
		if !bytes.Equal(impl.ReadPage(late, g, p), want) {
			t.Fatal("behind the operations of the page", page, "of", g, "the page", p, "is another")
		}
	}
	ahead := plainPageSector(g, 0) * sectorSize
	if !bytes.Equal(plainView(early)[:ahead], plainView(late)[:ahead]) {
		t.Fatal("the operations of the page", page, "of", g, "write into master or log")
	}
}

// TestTornPages loses each choice of the eight writes of a page: what is left is whole
// exactly if it is the old page or the new one.
func TestTornPages(t *testing.T) {
	g := smallest(2)
	older, newer := map[int]string{0: textOf(1000, 'a'), 1: textOf(1000, 'b'), 2: textOf(700, 'c')}, map[int]string{0: textOf(900, 'A'), 1: textOf(1000, 'b'), 5: "new"}
	for page := range g.Pages {
		was, is := pageOf(page, older), pageOf(page, newer)
		d := laidInto(impl.Format(g), g, page, was)
		d = impl.RunOps(d, impl.PageOps(g, page, is), -1).Disk
		seen := map[bool]int{}
		for _, keep := range keptWays(sectorsEach) {
			torn := impl.DiskCrash(d, keep)
			b := impl.ReadPage(torn, g, page)
			want := impl.HeapResult{}
			switch {
			case bytes.Equal(b, was):
				want = impl.HeapResult{Good: true, Records: recordsOf(page, older)}
			case bytes.Equal(b, is):
				want = impl.HeapResult{Good: true, Records: recordsOf(page, newer)}
			}
			seen[want.Good]++
			if got := impl.Heap(torn, g); !sameHeap(got, want) {
				t.Fatal("the page", page, "of which the writes", keep, "are kept is good:", got.Good)
			}
			if got := impl.Lengths(torn, g); len(got) > 0 != want.Good {
				t.Fatal("the page", page, "of which the writes", keep, "are kept has", len(got), "lengths")
			}
		}
		if seen[true] == 0 || seen[false] == 0 {
			t.Error("the test's own pages are torn", seen)
		}
	}
}
