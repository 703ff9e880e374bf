package tests

import (
	"bytes"
	"math"
	"slices"
	"testing"

	"loop.example/s02544/impl"
)

func TestHeapConstants(t *testing.T) {
	if impl.PageSectors != sectorsEach || impl.PageSectors*impl.SectorSize != impl.PageSize || impl.FirstLSN != 512 {
		t.Error("the constants that chapter 10 leans on")
	}
}

func TestSectorsThatAreKnown(t *testing.T) {
	for _, c := range []struct {
		name                 string
		g                    impl.Geometry
		otherFrames          int64
		sectors, first, last int64
	}{
		{"the least", impl.Geometry{Pages: 1, Frames: 3, LogSectors: 33}, 16, 43, 35, 35},
		{"a sector more of log", impl.Geometry{Pages: 1, Frames: 3, LogSectors: 34}, 4, 44, 36, 36},
		{"two pages", impl.Geometry{Pages: 2, Frames: 3, LogSectors: 42}, 16, 60, 44, 52},
		{"a page and the greatest log", impl.Geometry{Pages: 1, Frames: 3, LogSectors: 800}, 16, 810, 802, 802},
		{"all pages and the least log", impl.Geometry{Pages: 16, Frames: 3, LogSectors: 168}, 16, 298, 170, 290},
		{"the greatest", impl.Geometry{Pages: 16, Frames: 16, LogSectors: 800}, 3, 930, 802, 922},
	} {
		for _, frames := range []int64{c.g.Frames, c.otherFrames} {
			g := c.g
			g.Frames = frames
			if got := impl.DiskSectors(g); got != c.sectors {
				t.Error("DiskSectors of", c.name, "is", got, "and not", c.sectors)
			}
			if first, last := impl.PageSector(g, 0), impl.PageSector(g, g.Pages-1); first != c.first || last != c.last {
				t.Error("PageSector of", c.name, "is", first, last, "and not", c.first, c.last)
			}
		}
	}
}

func TestSectorsOfAllGeometries(t *testing.T) {
	for _, g := range goodGeometries() {
		sectors := impl.DiskSectors(g)
		if sectors != plainDiskSectors(g) || !within(sectors, 1, impl.MaxSectors) {
			t.Error("DiskSectors of", g, "is", sectors)
		}
		for page := int64(-2); page <= g.Pages+2; page++ {
			if got, want := impl.PageSector(g, page), plainPageSector(g, page); got != want {
				t.Error("PageSector of", g, page, "is", got, "and not", want)
			}
		}
		if impl.PageSector(g, g.Pages-1)+sectorsEach != sectors {
			t.Error("the last page of", g, "does not end with the disk")
		}
	}
}

func TestPagesThatThereAreNot(t *testing.T) {
	g := smallest(3)
	b := make([]byte, pageEnd)
	for _, page := range []int64{-1, -2, 3, 4, 15, 16, 1 << 32, 1<<32 + 1, 1 << 60, 1 << 61, math.MaxInt64, math.MinInt64, math.MinInt64 + 1, math.MinInt64 / 8, math.MaxInt64 / 8} {
		if got := impl.PageSector(g, page); got != -1 {
			t.Error("PageSector of", page, "is", got)
		}
		if got := impl.ReadPage(impl.Format(g), g, page); len(got) != 0 {
			t.Error("ReadPage of", page, "has", len(got), "bytes")
		}
		if got := impl.PageOps(g, page, b); len(got) != 0 {
			t.Error("PageOps of", page, "are", len(got))
		}
	}
}

func TestFaultyGeometries(t *testing.T) {
	codes := map[int64]int{}
	for _, g := range faultyGeometries() {
		codes[plainGeometryFault(g)]++
		if got := impl.DiskSectors(g); got != -1 {
			t.Error("DiskSectors of", g, "is", got)
		}
		if got := impl.Format(g); !sameDisk(got, impl.Disk{}) {
			t.Error("Format of", g, "has", len(got.Durable), "bytes")
		}
		// A disk that would be right if the geometry were.
		for _, d := range []impl.Disk{impl.Format(smallest(1)), impl.Format(smallest(2)), impl.NewDisk(720), {}} {
			if h := impl.Heap(d, g); !isZeroHeap(h) {
				t.Error("Heap of", g, "is", h)
			}
			if l := impl.Lengths(d, g); len(l) != 0 {
				t.Error("Lengths of", g, "are", l)
			}
			for _, page := range []int64{-1, 0, 1, 2, math.MaxInt64, math.MinInt64} {
				if b := impl.ReadPage(d, g, page); len(b) != 0 {
					t.Error("ReadPage of", g, page, "has", len(b), "bytes")
				}
			}
		}
		for _, page := range []int64{-1, 0, 1, 15, math.MaxInt64, math.MinInt64} {
			if got := impl.PageSector(g, page); got != -1 {
				t.Error("PageSector of", g, page, "is", got)
			}
			if got := impl.PageOps(g, page, make([]byte, pageEnd)); len(got) != 0 {
				t.Error("PageOps of", g, page, "are", len(got))
			}
		}
	}
	if codes[0] != 0 || codes[1] == 0 || codes[2] == 0 || codes[3] == 0 {
		t.Error("the test's own geometries have the codes", codes)
	}
}

// TestNewHeapIsGood is P12, but for the restart.
func TestNewHeapIsGood(t *testing.T) {
	for _, g := range goodGeometries() {
		d := impl.Format(g)
		if h := impl.Heap(d, g); !h.Good || len(h.Records) != 0 {
			t.Error("the new heap of", g, "is", h)
		}
		if l := impl.Lengths(d, g); !slices.Equal(l, slices.Repeat([]int64{-1}, int(g.Pages)*impl.Slots)) {
			t.Error("the lengths of the new heap of", g, "are", l)
		}
	}
}

func TestFormatPartByPart(t *testing.T) {
	for _, g := range goodGeometries() {
		d := impl.Format(g)
		if !impl.ValidDisk(d) || len(d.Pending) != 0 || int64(len(d.Durable)) != impl.DiskSectors(g)*sectorSize {
			t.Fatal("Format of", g, "is no disk of its sectors with all durable")
		}
		want := impl.Master{Seq: 1, Epoch: 1, Ckpt: impl.FirstLSN, Low: impl.FirstLSN}
		if m := impl.DecodeMaster(impl.DiskRead(d, 0)); !m.Good || m.Master != want {
			t.Error("the sector 0 of", g, "tells", m)
		}
		if m := impl.PickMaster(d); !m.Good || m.Slot != 0 || m.Master != want {
			t.Error("the master of", g, "is", m)
		}
		if !bytes.Equal(impl.DiskRead(d, 1), make([]byte, sectorSize)) {
			t.Error("the sector 1 of", g, "is not 0")
		}
		for page := range g.Pages {
			if !bytes.Equal(impl.ReadPage(d, g, page), impl.PageNew(page)) {
				t.Error("the page", page, "of", g, "is not new")
			}
		}
	}
}

func TestLogOfANewHeap(t *testing.T) {
	want := impl.Scan{End: 584, Frames: []impl.LogFrame{
		{LSN: 512, Epoch: 1, Record: impl.LogRecord{Kind: impl.KindBegin}},
		{LSN: 545, Epoch: 1, Record: impl.LogRecord{Kind: impl.KindTables, NextTxn: 1}},
	}}
	for _, g := range goodGeometries() {
		d := impl.Format(g)
		for _, most := range []int64{1, 2, greatestEpoch} {
			if s := impl.ScanLog(d, g.LogSectors, impl.FirstLSN, most); !sameScan(s, want) {
				t.Error("the log of", g, "up to the epoch", most, "is", s)
			}
		}
		if s := impl.ScanLog(d, g.LogSectors, impl.FirstLSN, 0); len(s.Frames) != 0 {
			t.Error("the log of", g, "has frames of the epoch 0")
		}
		if s := impl.ScanLog(d, g.LogSectors, want.End, greatestEpoch); len(s.Frames) != 0 || s.End != want.End {
			t.Error("the log of", g, "goes on behind its checkpoint")
		}
		l := impl.LogLoad(d, g.LogSectors, want.End, 2)
		if impl.LogFault(l) != 0 || len(l.Tail) != 72 {
			t.Error("the log of", g, "does not go on")
		}
	}
}

// TestFormatByteForByte finds each byte that should be 0 too.
func TestFormatByteForByte(t *testing.T) {
	for _, g := range goodGeometries() {
		got, want := impl.Format(g), plainFormat(g)
		if !sameDisk(got, want) {
			t.Error("Format of", g, "is not what the chapter says")
		}
		for i := range got.Durable {
			if got.Durable[i] != want.Durable[i] {
				t.Fatal("the first such byte of", g, "is", i, "in the sector", i/sectorSize)
			}
		}
	}
}

func TestFormatHangsNotOnFrames(t *testing.T) {
	for pages := int64(1); pages <= mostPages; pages++ {
		g := smallest(pages)
		want := impl.Format(g)
		for g.Frames = 3; g.Frames <= mostFrames; g.Frames++ {
			if !sameDisk(impl.Format(g), want) || impl.DiskSectors(g) != impl.DiskSectors(smallest(pages)) {
				t.Error("another disk with", g.Frames, "frames")
			}
		}
	}
}
