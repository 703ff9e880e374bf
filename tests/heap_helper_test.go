package tests

import (
	"bytes"
	"encoding/binary"
	"math"
	"math/rand"
	"slices"

	"loop.example/s02544/impl"
)

// What chapter 10 leans on, written out.
const (
	sectorsEach = 8
	mostLog     = 800
)

func leastLog(pages int64) int64 { return 9*pages + 24 }

// smallest is the geometry of so many pages with the fewest frames and sectors.
func smallest(pages int64) impl.Geometry {
	return impl.Geometry{Pages: pages, Frames: 3, LogSectors: leastLog(pages)}
}

// goodGeometries have every number of pages, each with frames and log at both bounds.
func goodGeometries() []impl.Geometry {
	var list []impl.Geometry
	for pages := int64(1); pages <= mostPages; pages++ {
		for _, frames := range []int64{3, mostFrames} {
			for _, sectors := range []int64{leastLog(pages), mostLog} {
				list = append(list, impl.Geometry{Pages: pages, Frames: frames, LogSectors: sectors})
			}
		}
	}
	return list
}

// faultyGeometries have each code alone, near its bounds and far out of them, and some codes together.
func faultyGeometries() []impl.Geometry {
	list := []impl.Geometry{{}, {Pages: -1, Frames: -1, LogSectors: -1}}
	for _, pages := range []int64{0, -1, 17, 18, 1 << 60, math.MinInt64, math.MaxInt64} {
		list = append(list, impl.Geometry{Pages: pages, Frames: 3, LogSectors: 700})
	}
	for _, frames := range []int64{2, 0, -1, 17, math.MinInt64, math.MaxInt64} {
		list = append(list, impl.Geometry{Pages: 2, Frames: frames, LogSectors: 42})
	}
	for _, sectors := range []int64{41, 0, -1, 801, 1 << 60, math.MinInt64, math.MaxInt64} {
		list = append(list, impl.Geometry{Pages: 2, Frames: 3, LogSectors: sectors})
	}
	for _, n := range []int64{math.MinInt64, math.MaxInt64} {
		list = append(list, impl.Geometry{Pages: n, Frames: n, LogSectors: n})
	}
	return append(list, impl.Geometry{Pages: 1, Frames: 3, LogSectors: 32}, impl.Geometry{Pages: 16, Frames: 16, LogSectors: 167})
}

func plainDiskSectors(g impl.Geometry) int64 {
	if plainGeometryFault(g) != 0 {
		return -1
	}
	return 2 + g.LogSectors + sectorsEach*g.Pages
}

// plainPageSector counts the sectors that stand ahead of the page.
func plainPageSector(g impl.Geometry, page int64) int64 {
	if plainGeometryFault(g) != 0 || !within(page, 0, g.Pages-1) {
		return -1
	}
	at := 2 + g.LogSectors
	for range page {
		at += sectorsEach
	}
	return at
}

// plainSeal has the sum that the bytes behind it ask for.
func plainSeal(page []byte) []byte {
	c := bytes.Clone(page)
	binary.BigEndian.PutUint32(c, uint32(plainSum(c[4:])))
	return c
}

func plainWhole(page []byte) bool {
	return int64(binary.BigEndian.Uint32(page)) == plainSum(page[4:])
}

func plainNewPage(number int64) []byte {
	page := make([]byte, pageEnd)
	putOwn(page, uint32(number))
	putBottom(page, pageEnd)
	return plainSeal(page)
}

// plainFormat joins the parts of the disk one behind the other.
func plainFormat(g impl.Geometry) impl.Disk {
	if plainGeometryFault(g) != 0 {
		return impl.Disk{}
	}
	all := plainMaster(impl.Master{Seq: 1, Epoch: 1, Ckpt: 512, Low: 512})
	all = append(all, make([]byte, sectorSize)...)
	log := framed(512, 1, impl.LogRecord{Kind: 6})
	log = append(log, framed(512+int64(len(log)), 1, impl.LogRecord{Kind: 7, NextTxn: 1})...)
	all = append(append(all, log...), make([]byte, g.LogSectors*sectorSize-int64(len(log)))...)
	for page := range g.Pages {
		all = append(all, plainNewPage(page)...)
	}
	return impl.Disk{Durable: all}
}

func plainHoldsHeap(d impl.Disk, g impl.Geometry) bool {
	return impl.ValidDisk(d) && int64(len(d.Durable)) == plainDiskSectors(g)*sectorSize
}

func plainReadPage(d impl.Disk, g impl.Geometry, page int64) []byte {
	at := plainPageSector(g, page) * sectorSize
	if at < 0 || !plainHoldsHeap(d, g) {
		return nil
	}
	return plainView(d)[at : at+pageEnd]
}

func plainPageOps(g impl.Geometry, page int64, b []byte) []impl.Op {
	sector := plainPageSector(g, page)
	if sector < 0 || len(b) != pageEnd {
		return nil
	}
	var ops []impl.Op
	for len(b) > 0 {
		ops = append(ops, impl.Op{Kind: 1, Sector: sector, Data: bytes.Clone(b[:sectorSize])})
		b = b[sectorSize:]
		sector++
	}
	return ops
}

func plainHeap(d impl.Disk, g impl.Geometry) impl.HeapResult {
	if !plainHoldsHeap(d, g) {
		return impl.HeapResult{}
	}
	var list []impl.HeapRecord
	for page := range g.Pages {
		b := plainReadPage(d, g, page)
		if !plainWhole(b) || plainFault(b, page) != 0 {
			return impl.HeapResult{}
		}
		for slot := range slotsEach {
			if slotOf(b, slot).offset != 0 {
				list = append(list, impl.HeapRecord{Id: page*slotsEach + int64(slot), Data: bytes.Clone(plainRecord(b, slot))})
			}
		}
	}
	return impl.HeapResult{Good: true, Records: list}
}

func plainHeapLengths(d impl.Disk, g impl.Geometry) []int64 {
	heap := plainHeap(d, g)
	if !heap.Good {
		return nil
	}
	list := bare(int(g.Pages))
	for _, r := range heap.Records {
		list[r.Id] = int64(len(r.Data))
	}
	return list
}

func sameRecords(a, b []impl.HeapRecord) bool {
	return slices.EqualFunc(a, b, func(x, y impl.HeapRecord) bool { return x.Id == y.Id && bytes.Equal(x.Data, y.Data) })
}

func sameHeap(a, b impl.HeapResult) bool {
	return a.Good == b.Good && sameRecords(a.Records, b.Records)
}

func isZeroHeap(h impl.HeapResult) bool { return !h.Good && len(h.Records) == 0 }

// laidInto has the page's bytes durable at its place.
func laidInto(d impl.Disk, g impl.Geometry, page int64, b []byte) impl.Disk {
	c := copyOf(d)
	copy(c.Durable[plainPageSector(g, page)*sectorSize:], b)
	return c
}

// pendingInto has writes of these sectors of the page (0 to 7) behind those that are pending.
func pendingInto(d impl.Disk, g impl.Geometry, page int64, b []byte, sectors ...int64) impl.Disk {
	c := copyOf(d)
	for _, i := range sectors {
		data := bytes.Clone(b[i*sectorSize : (i+1)*sectorSize])
		c.Pending = append(c.Pending, impl.SectorWrite{Sector: plainPageSector(g, page) + i, Data: data})
	}
	return c
}

func allSectors() []int64 { return []int64{0, 1, 2, 3, 4, 5, 6, 7} }

// pageOf is a whole page with these records, laid by the plain set.
func pageOf(number int64, records map[int]string) []byte {
	page := plainNewPage(number)
	for slot := range slotsEach {
		if text, ok := records[slot]; ok {
			page = plainSet(page, slot, recordOf(text), 600)
		}
	}
	return plainSeal(page)
}

func textOf(n int, b byte) string { return string(bytes.Repeat([]byte{b}, n)) }

// recordsOf are the records of pageOf, rising by id.
func recordsOf(number int64, records map[int]string) []impl.HeapRecord {
	var list []impl.HeapRecord
	for slot := range slotsEach {
		if text, ok := records[slot]; ok {
			list = append(list, impl.HeapRecord{Id: number*slotsEach + int64(slot), Data: []byte(text)})
		}
	}
	return list
}

// anyHeapPage is whole and well-formed with this number.
func anyHeapPage(r *rand.Rand, number int64) []byte {
	page := anyPage(r)
	putOwn(page, uint32(number))
	return plainSeal(page)
}

// spoiled is no page of this number any more, in one of several ways.
func spoiled(r *rand.Rand, page []byte, number int64) []byte {
	c := bytes.Clone(page)
	switch r.Intn(5) {
	case 0:
		c[r.Intn(pageEnd)] ^= 1 << r.Intn(8)
		return c
	case 1:
		putOwn(c, uint32(number+1))
	case 2:
		putBottom(c, 147)
	case 3:
		putSlot(c, r.Intn(slotsEach), 0, 1)
	case 4:
		c[zerosPlace] = 1
	}
	return plainSeal(c)
}

// anyHeapDisk has durable pages and pending ones, of which some are spoiled or torn.
func anyHeapDisk(r *rand.Rand, g impl.Geometry) impl.Disk {
	d := impl.Format(g)
	for page := range g.Pages {
		b := anyHeapPage(r, page)
		if r.Intn(8) == 0 {
			b = spoiled(r, b, page)
		}
		if r.Intn(3) > 0 {
			copy(d.Durable[plainPageSector(g, page)*sectorSize:], b)
			continue
		}
		d = pendingInto(d, g, page, b, allSectors()...)
		if r.Intn(4) == 0 {
			other := anyHeapPage(r, page)
			d = pendingInto(d, g, page, other, allSectors()[r.Intn(8):]...)
		}
	}
	return d
}
