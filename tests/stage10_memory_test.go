package tests

import (
	"bytes"
	"math"
	"math/rand"
	"slices"
	"sync"
	"testing"

	"loop.example/s02544/impl"
)

// heapArgument has what the calls of chapter 10 take.
type heapArgument struct {
	name  string
	disk  impl.Disk
	g     impl.Geometry
	page  int64
	bytes []byte
}

// heapAnswer is the answer of any of them.
type heapAnswer struct {
	number  int64
	disk    impl.Disk
	page    []byte
	ops     []impl.Op
	heap    impl.HeapResult
	lengths []int64
}

func (a heapArgument) copy() heapArgument {
	a.disk, a.bytes = copyOf(a.disk), bytes.Clone(a.bytes)
	return a
}

// roomy has lists that have something behind their ends too.
func (a heapArgument) roomy() heapArgument {
	pending := append(copyWrites(a.disk.Pending), writeTo(0, 66), writeTo(1, 67))
	for i := range pending {
		pending[i].Data = roomy(pending[i].Data)
	}
	a.disk = impl.Disk{Durable: roomy(a.disk.Durable), Pending: pending[:len(a.disk.Pending)]}
	a.bytes = roomy(a.bytes)
	return a
}

// whole shows what stands behind the ends of the lists too.
func (a heapArgument) whole() heapArgument {
	pending := slices.Clone(a.disk.Pending[:cap(a.disk.Pending)])
	for i, w := range pending {
		pending[i].Data = w.Data[:cap(w.Data)]
	}
	a.disk = impl.Disk{Durable: a.disk.Durable[:cap(a.disk.Durable)], Pending: pending}
	a.bytes = a.bytes[:cap(a.bytes)]
	return a
}

func (a heapArgument) same(b heapArgument) bool {
	return sameDisk(a.disk, b.disk) && bytes.Equal(a.bytes, b.bytes)
}

func (a heapArgument) scribble(v byte) {
	scribbleDisk(a.disk, v)
	scribble(a.bytes, v)
}

func copyRecords(list []impl.HeapRecord) []impl.HeapRecord {
	c := slices.Clone(list)
	for i, r := range c {
		c[i].Data = bytes.Clone(r.Data)
	}
	return c
}

func (a heapAnswer) copy() heapAnswer {
	a.disk, a.page, a.ops = copyOf(a.disk), bytes.Clone(a.page), copyOps(a.ops)
	a.heap.Records, a.lengths = copyRecords(a.heap.Records), slices.Clone(a.lengths)
	return a
}

func (a heapAnswer) same(b heapAnswer) bool {
	return a.number == b.number && sameDisk(a.disk, b.disk) && bytes.Equal(a.page, b.page) && sameOps(a.ops, b.ops) &&
		sameHeap(a.heap, b.heap) && slices.Equal(a.lengths, b.lengths)
}

func (a heapAnswer) scribble(v byte) {
	scribbleDisk(a.disk, v)
	scribble(a.page, v)
	for _, op := range a.ops {
		scribble(op.Data, v)
	}
	for _, r := range a.heap.Records {
		scribble(r.Data, v)
	}
	ops, records, lengths := a.ops[:cap(a.ops)], a.heap.Records[:cap(a.heap.Records)], a.lengths[:cap(a.lengths)]
	for i := range ops {
		ops[i] = impl.Op{Kind: int64(v), Sector: int64(v)}
	}
	for i := range records {
		records[i] = impl.HeapRecord{Id: int64(v)}
	}
	for i := range lengths {
		lengths[i] = int64(v)
	}
}

func heapCalls() map[string]func(a heapArgument) heapAnswer {
	return map[string]func(a heapArgument) heapAnswer{
		"DiskSectors": func(a heapArgument) heapAnswer {
			return heapAnswer{number: impl.DiskSectors(a.g)}
		},
		"PageSector": func(a heapArgument) heapAnswer {
			return heapAnswer{number: impl.PageSector(a.g, a.page)}
		},
		"Format": func(a heapArgument) heapAnswer {
			return heapAnswer{disk: impl.Format(a.g)}
		},
		"ReadPage": func(a heapArgument) heapAnswer {
			return heapAnswer{page: impl.ReadPage(a.disk, a.g, a.page)}
		},
		"PageOps": func(a heapArgument) heapAnswer {
			return heapAnswer{ops: impl.PageOps(a.g, a.page, a.bytes)}
		},
		"Heap": func(a heapArgument) heapAnswer {
			return heapAnswer{heap: impl.Heap(a.disk, a.g)}
		},
		"Lengths": func(a heapArgument) heapAnswer {
			return heapAnswer{lengths: impl.Lengths(a.disk, a.g)}
		},
	}
}

// plainHeapCalls are the answers by the plain writing of the chapter.
func plainHeapCalls(a heapArgument) map[string]heapAnswer {
	return map[string]heapAnswer{
		"DiskSectors": {number: plainDiskSectors(a.g)},
		"PageSector":  {number: plainPageSector(a.g, a.page)},
		"Format":      {disk: plainFormat(a.g)},
		"ReadPage":    {page: plainReadPage(a.disk, a.g, a.page)},
		"PageOps":     {ops: plainPageOps(a.g, a.page, a.bytes)},
		"Heap":        {heap: plainHeap(a.disk, a.g)},
		"Lengths":     {lengths: plainHeapLengths(a.disk, a.g)},
	}
}

// fullPage has records of several lengths, some of no bytes.
func fullPage(number int64) []byte {
	return pageOf(number, map[int]string{0: textOf(1000, 'a'), 1: "", 2: "two", 9: textOf(1000, 'b'), 30: "", 31: textOf(600, 'c')})
}

// pendingHeap has all pages pending, and the data of the writes stand in one array.
func pendingHeap(g impl.Geometry) impl.Disk {
	d := impl.Format(g)
	var all []byte
	for page := range g.Pages {
		all = append(all, fullPage(page)...)
	}
	for i := range g.Pages * sectorsEach {
		w := impl.SectorWrite{Sector: plainPageSector(g, 0) + i, Data: all[i*sectorSize : (i+1)*sectorSize]}
		d.Pending = append(d.Pending, w)
	}
	return d
}

// heapArguments begin with two whose heaps are good and have records.
func heapArguments() []heapArgument {
	g := smallest(2)
	durable := impl.Format(g)
	for page := range g.Pages {
		durable = laidInto(durable, g, page, fullPage(page))
	}
	good := heapArgument{"durable pages", durable, g, 1, fullPage(1)}
	pending := heapArgument{"pending pages", pendingHeap(g), g, 0, bytes.Repeat([]byte{5}, pageEnd)}
	list := []heapArgument{good, pending, {"a new heap", impl.Format(smallest(1)), smallest(1), 0, make([]byte, pageEnd)}}
	for _, d := range wrongDisks(g) {
		a := good
		a.name, a.disk = d.name, d.disk
		list = append(list, a)
	}
	torn := good
	torn.name, torn.disk = "a torn page", pendingInto(durable, g, 1, make([]byte, pageEnd), 2)
	list = append(list, torn)
	for _, other := range faultyGeometries() {
		a := good
		a.name, a.g = "a faulty geometry", other
		list = append(list, a)
	}
	for _, page := range []int64{-1, 2, 16, math.MaxInt64, math.MinInt64} {
		a := good
		a.name, a.page = "a page that there is not", page
		list = append(list, a)
	}
	for _, n := range []int{0, 1, pageEnd - 1, pageEnd + 1} {
		a := good
		a.name, a.bytes = "bytes of no page", make([]byte, n)
		list = append(list, a)
	}
	return append(list, heapArgument{name: "nothing"})
}

func TestHeapCallsAgainstThePlainOnes(t *testing.T) {
	for _, a := range heapArguments() {
		want := plainHeapCalls(a)
		for name, call := range heapCalls() {
			if got := call(a); !got.same(want[name]) {
				t.Error(name, "of", a.name, "is not what the chapter says")
			}
		}
	}
}

func TestHeapCallsChangeNoArgument(t *testing.T) {
	for _, a := range heapArguments() {
		for name, call := range heapCalls() {
			given := a.roomy()
			before := given.whole().copy()
			first := call(given)
			kept := first.copy()
			first.scribble(99)
			if !given.whole().same(before) {
				t.Fatal(name, "of", a.name, "changes an argument or answers its memory")
			}
			if !call(given).same(kept) || !call(a).same(kept) {
				t.Fatal(name, "of", a.name, "answers something else to the same arguments")
			}
		}
	}
}

func TestHeapAnswersOutliveTheArguments(t *testing.T) {
	for _, a := range heapArguments() {
		for name, call := range heapCalls() {
			given := a.copy().roomy()
			answer := call(given)
			kept := answer.copy()
			given.scribble(98)
			call(a).scribble(97)
			if !answer.same(kept) {
				t.Fatal(name, "of", a.name, "keeps memory of an argument or answers the same memory twice")
			}
		}
	}
}

// TestRecordsOfAHeapShareNothing writes over each record, to its very end, in turn.
func TestRecordsOfAHeapShareNothing(t *testing.T) {
	for _, a := range heapArguments()[:2] {
		count := len(impl.Heap(a.disk, a.g).Records)
		if count != 12 {
			t.Fatal("the test's own heap has", count, "records")
		}
		for i := range count {
			h := impl.Heap(a.disk, a.g)
			kept := copyRecords(h.Records)
			scribble(h.Records[i].Data, 99)
			h.Records[i].Data = kept[i].Data
			if !sameRecords(h.Records, kept) {
				t.Error("the record", i, "of", a.name, "shares memory with another")
			}
			h = impl.Heap(a.disk, a.g)
			h.Records[i].Data = append(h.Records[i].Data, 1, 2, 3)
			h.Records[i].Data = kept[i].Data
			if !sameRecords(h.Records, kept) {
				t.Error("what is put behind the record", i, "of", a.name, "is seen in another")
			}
		}
	}
}

func TestSectorsOfAPageShareNothing(t *testing.T) {
	g, b := smallest(2), fullPage(1)
	for i := range sectorsEach {
		ops := impl.PageOps(g, 1, b)
		kept := copyOps(ops)
		scribble(ops[i].Data, 99)
		ops[i].Data = kept[i].Data
		if !sameOps(ops, kept) || !bytes.Equal(b, fullPage(1)) {
			t.Error("the sector", i, "of a page shares memory with another")
		}
	}
}

func TestHeapCallsHangOnTheArgumentsAlone(t *testing.T) {
	arguments := heapArguments()
	for name, call := range heapCalls() {
		var want []heapAnswer
		for _, a := range arguments {
			want = append(want, call(a))
		}
		for i := len(arguments) - 1; i >= 0; i-- {
			if !call(arguments[i]).same(want[i]) {
				t.Fatal(name, "of", arguments[i].name, "answers something else behind other calls")
			}
		}
	}
}

func TestHeapCallsAtTheSameTime(t *testing.T) {
	calls, arguments := heapCalls(), heapArguments()
	want := map[string][]heapAnswer{}
	for name, call := range calls {
		for _, a := range arguments {
			want[name] = append(want[name], call(a))
		}
	}
	var all sync.WaitGroup
	var wrong [8]int64
	for i := range wrong {
		all.Go(func() {
			for name, call := range calls {
				for k, a := range arguments {
					if !call(a).same(want[name][k]) {
						wrong[i]++
					}
				}
			}
		})
	}
	all.Wait()
	if wrong != [8]int64{} {
		t.Error("calls that are made at the same time")
	}
}

func TestAnyArgumentsOfAHeapAreAnswered(t *testing.T) {
	r := rand.New(rand.NewSource(105))
	numbers := []int64{math.MinInt64, math.MinInt64 + 1, math.MinInt64 / 8, -2, -1, 0, 1, 2, 3, 15, 16, 17, 33, 42, 167, 168, 799, 800, 801, 1 << 32, math.MaxInt64 / 8, math.MaxInt64 - 1, math.MaxInt64}
	any := func() int64 { return numbers[r.Intn(len(numbers))] }
	disks := []impl.Disk{impl.Format(smallest(1)), impl.Format(smallest(2)), markedHeap(smallest(2)), pendingHeap(smallest(2)), impl.NewDisk(1), {}, {Durable: make([]byte, 43*512-1)}}
	lengths := []int{0, 1, 512, pageEnd - 1, pageEnd, pageEnd + 1}
	for range 3000 {
		a := heapArgument{disk: disks[r.Intn(len(disks))], page: any(), bytes: someBytes(r, lengths[r.Intn(len(lengths))])}
		a.g = impl.Geometry{Pages: any(), Frames: any(), LogSectors: any()}
		switch r.Intn(3) {
		case 0:
			a.g = smallest(1 + r.Int63n(2))
		case 1:
			a.g.Frames = 3
		}
		want := plainHeapCalls(a)
		for name, call := range heapCalls() {
			if got := call(a); !got.same(want[name]) {
				t.Fatal(name, "of", a.g, a.page, "is not what the chapter says")
			}
		}
	}
}
