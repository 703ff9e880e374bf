package tests

import (
	"bytes"
	"math"
	"math/rand"
	"sync"
	"testing"

	"loop.example/s02544/impl"
)

// streamArgument has what the calls of chapter 5 take.
type streamArgument struct {
	name    string
	disk    impl.Disk
	log     impl.Log
	record  impl.LogRecord
	sectors int64
	place   int64
	epoch   int64
}

// streamAnswer is the answer of any of them.
type streamAnswer struct {
	code int64
	lsn  int64
	log  impl.Log
	ops  []impl.Op
	scan impl.Scan
}

func (a streamArgument) copy() streamArgument {
	a.disk = copyOf(a.disk)
	a.log.Tail = append([]byte(nil), a.log.Tail...)
	a.record = copyLog(a.record)
	return a
}

// roomy has lists that have something behind their ends too.
func (a streamArgument) roomy() streamArgument {
	pending := append(copyWrites(a.disk.Pending), writeTo(0, 66), writeTo(1, 67))
	for i := range pending {
		pending[i].Data = roomy(pending[i].Data)
	}
	a.disk = impl.Disk{Durable: roomy(a.disk.Durable), Pending: pending[:len(a.disk.Pending)]}
	a.log.Tail = roomy(a.log.Tail)
	a.record = roomyLog(a.record)
	return a
}

// whole shows what stands behind the ends of the lists too.
func (a streamArgument) whole() streamArgument {
	pending := append([]impl.SectorWrite(nil), a.disk.Pending[:cap(a.disk.Pending)]...)
	for i, w := range pending {
		pending[i].Data = w.Data[:cap(w.Data)]
	}
	a.disk = impl.Disk{Durable: a.disk.Durable[:cap(a.disk.Durable)], Pending: pending}
	a.log.Tail = a.log.Tail[:cap(a.log.Tail)]
	a.record = wholeLog(a.record)
	return a
}

func (a streamArgument) same(b streamArgument) bool {
	return sameDisk(a.disk, b.disk) && sameTail(a.log, b.log) && sameLog(a.record, b.record)
}

func (a streamArgument) scribble(v byte) {
	scribbleDisk(a.disk, v)
	scribble(a.log.Tail, v)
	scribbleLog(a.record, v)
}

func (a streamAnswer) copy() streamAnswer {
	a.log.Tail = append([]byte(nil), a.log.Tail...)
	a.ops = copyOps(a.ops)
	frames := a.scan.Frames
	a.scan.Frames = nil
	for _, f := range frames {
		a.scan.Frames = append(a.scan.Frames, impl.LogFrame{LSN: f.LSN, Epoch: f.Epoch, Record: copyLog(f.Record)})
	}
	return a
}

func (a streamAnswer) same(b streamAnswer) bool {
	return a.code == b.code && a.lsn == b.lsn && sameTail(a.log, b.log) && sameOps(a.ops, b.ops) && sameScan(a.scan, b.scan)
}

func (a streamAnswer) scribble(v byte) {
	scribble(a.log.Tail, v)
	for _, op := range a.ops {
		scribble(op.Data, v)
	}
	ops, frames := a.ops[:cap(a.ops)], a.scan.Frames[:cap(a.scan.Frames)]
	for i := range ops {
		ops[i] = impl.Op{Kind: int64(v), Sector: int64(v)}
	}
	for i, f := range frames {
		scribbleLog(f.Record, v)
		frames[i] = impl.LogFrame{LSN: int64(v)}
	}
}

func streamCalls() map[string]func(a streamArgument) streamAnswer {
	return map[string]func(a streamArgument) streamAnswer{
		"LogPlace": func(a streamArgument) streamAnswer {
			return streamAnswer{code: impl.LogPlace(a.sectors, a.place)}
		},
		"LogFault": func(a streamArgument) streamAnswer {
			return streamAnswer{code: impl.LogFault(a.log)}
		},
		"LogAppend": func(a streamArgument) streamAnswer {
			r := impl.LogAppend(a.log, a.record)
			return streamAnswer{code: r.Code, lsn: r.LSN, log: r.Log}
		},
		"LogFlushOps": func(a streamArgument) streamAnswer {
			return streamAnswer{ops: impl.LogFlushOps(a.log)}
		},
		"LogFlushed": func(a streamArgument) streamAnswer {
			return streamAnswer{log: impl.LogFlushed(a.log)}
		},
		"LogLoad": func(a streamArgument) streamAnswer {
			return streamAnswer{log: impl.LogLoad(a.disk, a.sectors, a.place, a.epoch)}
		},
		"LogLoad of an end": func(a streamArgument) streamAnswer {
			return streamAnswer{log: impl.LogLoad(a.disk, a.sectors, 1200, a.epoch)}
		},
		"ScanLog": func(a streamArgument) streamAnswer {
			return streamAnswer{scan: impl.ScanLog(a.disk, a.sectors, a.place, a.epoch)}
		},
		"ScanLog of no frames": func(a streamArgument) streamAnswer {
			return streamAnswer{scan: impl.ScanLog(a.disk, a.sectors, a.place+1, a.epoch)}
		},
	}
}

// streamArguments have a log of all kinds on a disk, some in pending writes whose data stand in one array.
func streamArguments(t *testing.T) []streamArgument {
	w := writtenFrom(t, 33, 2, 33*512-90)
	for _, r := range plainLogs() {
		w.append(r.record)
	}
	first := w.frames[0].LSN
	unflushed := w.log
	w.flush()
	good := streamArgument{"a log", w.disk, unflushed, logOf(1), 33, first, 2}
	image := good
	image.name, image.log, image.record = "a flushed log", w.log, logOf(8)
	pending := good
	pending.name, pending.disk = "pending writes", impl.Disk{Durable: make([]byte, 35*512)}
	pending.log, pending.record = flushedAt(33, 2, 1024), fullTables()
	data := append([]byte(nil), w.disk.Durable...)
	for i := range int64(35) {
		pending.disk.Pending = append(pending.disk.Pending, impl.SectorWrite{Sector: i, Data: data[i*512 : i*512+512]})
	}
	list := []streamArgument{good, image, pending}
	for _, l := range faultyTails() {
		a := good
		a.name, a.log = l.name, l.log
		list = append(list, a)
	}
	for _, d := range faultyDisks() {
		a := good
		a.name, a.disk = d.name, d.disk
		list = append(list, a)
	}
	for _, v := range []int64{0, 15, 34, 801, math.MaxInt64, math.MinInt64} {
		a := good
		a.name, a.sectors, a.place, a.epoch = "numbers out of bounds", v, -v, v
		list = append(list, a)
	}
	return append(list, streamArgument{name: "nothing"})
}

func TestLogOfTheStreamChangesNoArgument(t *testing.T) {
	for _, a := range streamArguments(t) {
		for name, call := range streamCalls() {
			given := a.roomy()
			before := given.whole().copy()
			first := call(given)
			kept := first.copy()
			first.scribble(99)
			if !given.whole().same(before) {
				t.Fatal(name, "of", a.name, "changes an argument or answers its memory")
			}
			if !call(given).same(kept) || !call(a).same(kept) {
				t.Fatal(name, "of", a.name, "answers something else to the same arguments")
			}
		}
	}
}

func TestLogOfTheStreamOutlivesTheArguments(t *testing.T) {
	for _, a := range streamArguments(t) {
		for name, call := range streamCalls() {
			given := a.copy().roomy()
			answer := call(given)
			kept := answer.copy()
			given.scribble(98)
			call(a).scribble(97)
			if !answer.same(kept) {
				t.Fatal(name, "of", a.name, "keeps memory of an argument or answers the same memory twice")
			}
		}
	}
}

// TestListsOfAScanShareNothing writes over each list of each frame, to its very end, in turn.
func TestListsOfAScanShareNothing(t *testing.T) {
	for _, a := range streamArguments(t)[:3] {
		frames := len(impl.ScanLog(a.disk, a.sectors, a.place, a.epoch).Frames)
		if frames != 8 {
			t.Fatal("the test's own log has", frames, "frames")
		}
		for i := range frames {
			got := impl.ScanLog(a.disk, a.sectors, a.place, a.epoch)
			kept := streamAnswer{scan: got}.copy().scan
			scribbleLog(got.Frames[i].Record, 99)
			got.Frames[i] = kept.Frames[i]
			if !sameScan(got, kept) {
				t.Fatal("the frame", i, "of", a.name, "shares memory with another")
			}
		}
		got := impl.ScanLog(a.disk, a.sectors, a.place, a.epoch)
		kept := copyLog(got.Frames[0].Record)
		scribble(got.Frames[0].Record.Before.Data, 99)
		got.Frames[0].Record.Before.Data = kept.Before.Data
		if !sameLog(got.Frames[0].Record, kept) {
			t.Fatal("the slots of", a.name, "share memory")
		}
	}
}

func TestSectorsOfAFlushShareNothing(t *testing.T) {
	l := impl.Log{Sectors: 16, Epoch: 1, End: 512*5 + 9, Flushed: 600, Tail: bytes.Repeat([]byte{7}, 512*4+9)}
	for i := range 5 {
		ops := impl.LogFlushOps(l)
		kept := copyOps(ops)
		scribble(ops[i].Data, 99)
		ops[i].Data = kept[i].Data
		if !sameOps(ops, kept) {
			t.Error("the sector", i, "of a flush shares memory with another")
		}
	}
}

// TestAppendsToOneLogAreApart appends twice to the same log, whose tail has room behind it.
func TestAppendsToOneLogAreApart(t *testing.T) {
	l := impl.LogAppend(flushedAt(16, 1, 600), sized(64)).Log
	l.Tail = append(make([]byte, 0, 4096), l.Tail...)
	one := impl.LogAppend(l, sized(70))
	kept := append([]byte(nil), one.Log.Tail...)
	two := impl.LogAppend(l, sized(90))
	if !bytes.Equal(one.Log.Tail, kept) || !bytes.Equal(two.Log.Tail, append(append([]byte(nil), l.Tail...), framed(l.End, 1, sized(90))...)) {
		t.Error("two appends to one log write into one tail")
	}
}

func TestLogOfTheStreamHangsOnTheArgumentsAlone(t *testing.T) {
	arguments := streamArguments(t)
	for name, call := range streamCalls() {
		var want []streamAnswer
		for _, a := range arguments {
			want = append(want, call(a))
		}
		for i := len(arguments) - 1; i >= 0; i-- {
			if !call(arguments[i]).same(want[i]) {
				t.Fatal(name, "of", arguments[i].name, "answers something else behind other calls")
			}
		}
	}
}

func TestLogOfTheStreamAtTheSameTime(t *testing.T) {
	calls, arguments := streamCalls(), streamArguments(t)
	want := map[string][]streamAnswer{}
	for name, call := range calls {
		for _, a := range arguments {
			want[name] = append(want[name], call(a))
		}
	}
	var all sync.WaitGroup
	var wrong [8]int64
	for i := range wrong {
		all.Go(func() {
			for name, call := range calls {
				for k, a := range arguments {
					if !call(a).same(want[name][k]) {
						wrong[i]++
					}
				}
			}
		})
	}
	all.Wait()
	if wrong != [8]int64{} {
		t.Error("calls that are made at the same time")
	}
}

func TestAnyArgumentsOfTheStreamAreAnswered(t *testing.T) {
	r := rand.New(rand.NewSource(57))
	numbers := []int64{math.MinInt64, math.MinInt64 + 511, -513, -1, 0, 1, 15, 16, 17, 511, 512, 800, 801, greatestEpoch, greatestLSN - 1, greatestLSN, greatestLSN + 1, math.MaxInt64 - 511, math.MaxInt64}
	any := func() int64 { return numbers[r.Intn(len(numbers))] }
	disks := []impl.Disk{impl.NewDisk(18), impl.NewDisk(802), impl.NewDisk(1), {}}
	calls := streamCalls()
	for range 4000 {
		a := streamArgument{disk: disks[r.Intn(len(disks))], record: logOf(1 + r.Int63n(8)), sectors: any(), place: any(), epoch: any()}
		a.log = impl.Log{Sectors: any(), Epoch: any(), End: any(), Flushed: any(), Tail: make([]byte, r.Intn(600))}
		if r.Intn(2) == 0 {
			a.log.Sectors, a.log.Epoch, a.sectors = 16, 1, 16
		}
		for _, call := range calls {
			call(a)
		}
	}
}
