package tests

import (
	"bytes"
	"math"
	"math/rand"
	"testing"

	"loop.example/s02544/impl"
)

// sectorSize stands here once more, so that a test does not follow the program's.
const sectorSize = 512

func plainPlace(sectors, lsn int64) int64 {
	if !within(sectors, 16, 800) || !within(lsn, 512, greatestLSN) {
		return -1
	}
	return 2 + (lsn-512)/sectorSize%sectors
}

func plainLogFault(l impl.Log) int64 {
	switch {
	case !within(l.Sectors, 16, 800):
		return 1
	case !within(l.Epoch, 1, greatestEpoch):
		return 2
	case !within(l.Flushed, 512, greatestLSN) || !within(l.End, l.Flushed, greatestLSN):
		return 3
	case int64(len(l.Tail)) != l.End-l.Flushed+l.Flushed%sectorSize:
		return 4
	}
	return 0
}

func plainAppend(l impl.Log, r impl.LogRecord) impl.AppendResult {
	if plainLogFault(l) != 0 || plainRecordFault(r) != 0 {
		return impl.AppendResult{Code: 1}
	}
	frame := plainFrame(uint64(l.End), uint32(l.Epoch), plainEncode(r))
	if l.End+int64(len(frame)) > greatestLSN {
		return impl.AppendResult{Code: 1}
	}
	more := impl.Log{Sectors: l.Sectors, Epoch: l.Epoch, End: l.End + int64(len(frame)), Flushed: l.Flushed}
	more.Tail = append(append([]byte(nil), l.Tail...), frame...)
	return impl.AppendResult{LSN: l.End, Log: more}
}

// plainFlushOps lays the tail byte by byte at its places.
func plainFlushOps(l impl.Log) []impl.Op {
	if plainLogFault(l) != 0 || l.Flushed == l.End {
		return nil
	}
	var ops []impl.Op
	place := l.Flushed - l.Flushed%sectorSize
	for i, b := range l.Tail {
		if i%sectorSize == 0 {
			ops = append(ops, impl.Op{Kind: 1, Sector: plainPlace(l.Sectors, place+int64(i)), Data: make([]byte, sectorSize)})
		}
		ops[len(ops)-1].Data[i%sectorSize] = b
	}
	return append(ops, impl.Op{Kind: 2})
}

func plainFlushed(l impl.Log) impl.Log {
	if plainLogFault(l) != 0 {
		return impl.Log{}
	}
	sectors := int64(len(l.Tail)) / sectorSize
	return impl.Log{Sectors: l.Sectors, Epoch: l.Epoch, End: l.End, Flushed: l.End, Tail: l.Tail[sectors*sectorSize:]}
}

// plainView is what a reader sees of the whole disk.
func plainView(d impl.Disk) []byte {
	view := append([]byte(nil), d.Durable...)
	for _, w := range d.Pending {
		copy(view[w.Sector*sectorSize:], w.Data)
	}
	return view
}

// plainStream are the bytes from one place up to another, each sought for itself.
func plainStream(d impl.Disk, sectors, from, to int64) []byte {
	view := plainView(d)
	var stream []byte
	for place := from; place < to; place++ {
		stream = append(stream, view[plainPlace(sectors, place)*sectorSize+place%sectorSize])
	}
	return stream
}

func plainHolds(d impl.Disk, sectors, lsn int64) bool {
	return impl.ValidDisk(d) && plainPlace(sectors, lsn) >= 0 && int64(len(d.Durable)) >= (sectors+2)*sectorSize
}

func plainLoad(d impl.Disk, sectors, end, epoch int64) impl.Log {
	if !plainHolds(d, sectors, end) || !within(epoch, 1, greatestEpoch) {
		return impl.Log{}
	}
	return impl.Log{Sectors: sectors, Epoch: epoch, End: end, Flushed: end, Tail: plainStream(d, sectors, end-end%sectorSize, end)}
}

func plainScan(d impl.Disk, sectors, from, most int64) impl.Scan {
	if !plainHolds(d, sectors, from) {
		return impl.Scan{}
	}
	stream := plainStream(d, sectors, from, min(from-from%sectorSize+sectors*sectorSize, greatestLSN))
	scan := impl.Scan{End: from}
	least := int64(1)
	for plainFrameCode(stream, scan.End, least, most) == 0 {
		p := &plainReading{b: stream}
		size := p.get4()
		p.bytes(12)
		least = p.get4()
		record, _ := plainDecode(stream[20:size])
		scan.Frames = append(scan.Frames, impl.LogFrame{LSN: scan.End, Epoch: least, Record: record})
		scan.End += size
		stream = stream[size:]
	}
	return scan
}

func sameTail(a, b impl.Log) bool {
	return a.Sectors == b.Sectors && a.Epoch == b.Epoch && a.End == b.End && a.Flushed == b.Flushed && bytes.Equal(a.Tail, b.Tail)
}

func isZeroTail(l impl.Log) bool { return sameTail(l, impl.Log{}) }

func sameAppend(a, b impl.AppendResult) bool {
	return a.Code == b.Code && a.LSN == b.LSN && sameTail(a.Log, b.Log)
}

func sameScan(a, b impl.Scan) bool {
	if a.End != b.End || len(a.Frames) != len(b.Frames) {
		return false
	}
	for i, f := range a.Frames {
		if f.LSN != b.Frames[i].LSN || f.Epoch != b.Frames[i].Epoch || !sameLog(f.Record, b.Frames[i].Record) {
			return false
		}
	}
	return true
}

// flushedAt is a log that has nothing to flush, with a tail of bytes that are no frame.
func flushedAt(sectors, epoch, at int64) impl.Log {
	tail := bytes.Repeat([]byte{171}, int(at%sectorSize))
	return impl.Log{Sectors: sectors, Epoch: epoch, End: at, Flushed: at, Tail: tail}
}

// written is a log and the disk that it is flushed to, and what was logged.
type written struct {
	t      *testing.T
	disk   impl.Disk
	log    impl.Log
	frames []impl.LogFrame
}

func writtenFrom(t *testing.T, sectors, epoch, at int64) *written {
	return &written{t: t, disk: impl.NewDisk(sectors + 2), log: flushedAt(sectors, epoch, at)}
}

func (w *written) append(records ...impl.LogRecord) {
	w.t.Helper()
	for _, r := range records {
		a := impl.LogAppend(w.log, r)
		if a.Code != 0 || a.LSN != w.log.End {
			w.t.Fatal("a record is appended with the code", a.Code, "at", a.LSN, "and not", w.log.End)
		}
		w.frames = append(w.frames, impl.LogFrame{LSN: a.LSN, Epoch: w.log.Epoch, Record: r})
		w.log = a.Log
	}
}

func (w *written) flush() {
	w.t.Helper()
	w.disk = impl.RunOps(w.disk, impl.LogFlushOps(w.log), -1).Disk
	w.log = impl.LogFlushed(w.log)
	if len(w.disk.Pending) > 0 || w.log.Flushed != w.log.End {
		w.t.Fatal("a flush that leaves something:", len(w.disk.Pending), w.log.Flushed, w.log.End)
	}
}

// found asks for all that was logged from the frame i on.
func (w *written) found(i int, most int64) {
	w.t.Helper()
	want := impl.Scan{Frames: w.frames[i:], End: w.log.End}
	got := impl.ScanLog(w.disk, w.log.Sectors, w.frames[i].LSN, most)
	if !sameScan(got, want) {
		w.t.Fatalf("from %d on up to epoch %d: %d frames up to %d, not %d up to %d", w.frames[i].LSN, most, len(got.Frames), got.End, len(want.Frames), want.End)
	}
}

// sized is an insert whose frame has so many bytes, 41 to 1041.
func sized(n int) impl.LogRecord {
	return impl.LogRecord{Kind: 1, Txn: 3, Page: 1, After: longRecord(n-41, byte(n))}
}

// filling are records whose frames have so many bytes together.
func filling(n int64) []impl.LogRecord {
	var list []impl.LogRecord
	for n > 1041 {
		size := min(1041, n-41)
		list = append(list, sized(int(size)))
		n -= size
	}
	return append(list, sized(int(n)))
}

// layAt writes bytes into the durable sectors, at their places in the stream.
func layAt(d impl.Disk, sectors, place int64, b []byte) {
	for i := range b {
		at := place + int64(i)
		d.Durable[(2+(at/sectorSize-1)%sectors)*sectorSize+at%sectorSize] = b[i]
	}
}

func framed(lsn, epoch int64, r impl.LogRecord) []byte {
	return plainFrame(uint64(lsn), uint32(epoch), plainEncode(r))
}

type namedTail struct {
	name string
	log  impl.Log
}

// faultyTails has a log for each reason for which one is faulty.
func faultyTails() []namedTail {
	good := impl.Log{Sectors: 16, Epoch: 1, End: 1100, Flushed: 1030, Tail: make([]byte, 76)}
	broken := func(name string, change func(l *impl.Log)) namedTail {
		l := good
		change(&l)
		return namedTail{name, l}
	}
	list := []namedTail{{"the zero value", impl.Log{}}}
	for _, v := range []int64{15, 801, 0, -16, math.MaxInt64, math.MinInt64} {
		list = append(list, broken("a wrong number of sectors", func(l *impl.Log) { l.Sectors = v }))
	}
	for _, v := range []int64{0, -1, greatestEpoch + 1, math.MaxInt64, math.MinInt64} {
		list = append(list, broken("a wrong epoch", func(l *impl.Log) { l.Epoch = v }))
	}
	for _, v := range []int64{511, 0, -1, 1101, greatestLSN + 1, math.MaxInt64, math.MinInt64} {
		list = append(list, broken("a wrong place of what is flushed", func(l *impl.Log) { l.Flushed = v }))
	}
	for _, v := range []int64{1029, 511, 0, -1, greatestLSN + 1, math.MaxInt64, math.MinInt64} {
		list = append(list, broken("a wrong end", func(l *impl.Log) { l.End = v }))
	}
	for _, n := range []int{0, 1, 70, 75, 77, 76 + 512} {
		list = append(list, broken("a wrong tail", func(l *impl.Log) { l.Tail = make([]byte, n) }))
	}
	return list
}

// anyTail is a log without fault.
func anyTail(r *rand.Rand) impl.Log {
	l := impl.Log{Sectors: 16 + r.Int63n(785), Epoch: 1 + r.Int63n(greatestEpoch), Flushed: 512 + r.Int63n(greatestLSN-511)}
	if r.Intn(2) == 0 {
		l.Sectors = 16 + r.Int63n(3)
		l.Flushed = 512 + r.Int63n(40*sectorSize)
	}
	if r.Intn(4) == 0 {
		l.Flushed -= l.Flushed % sectorSize
	}
	if r.Intn(9) == 0 {
		l.Flushed = greatestLSN - r.Int63n(3000)
	}
	l.End = l.Flushed
	if r.Intn(4) > 0 {
		l.End = min(l.Flushed+r.Int63n(3000), greatestLSN)
	}
	if r.Intn(4) == 0 {
		l.End = max(l.Flushed, l.End-l.End%sectorSize)
	}
	l.Tail = someBytes(r, int(l.End-l.Flushed+l.Flushed%sectorSize))
	return l
}
