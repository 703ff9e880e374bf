package tests

import (
	"bytes"
	"math/rand"
	"testing"

	"loop.example/s02544/impl"
)

func TestLogAppendEachKind(t *testing.T) {
	logs := []impl.Log{
		flushedAt(16, 1, 512),
		flushedAt(33, 7, 1023),
		flushedAt(800, greatestEpoch, 1024),
		{Sectors: 16, Epoch: 3, End: 1500, Flushed: 700, Tail: bytes.Repeat([]byte{5}, 988)},
		flushedAt(17, 2, greatestLSN-5000),
	}
	for _, l := range logs {
		for _, r := range goodLogs() {
			a := impl.LogAppend(l, r.record)
			frame := framed(l.End, l.Epoch, r.record)
			if a.Code != 0 || a.LSN != l.End || a.Log.End != l.End+int64(len(frame)) || a.Log.Flushed != l.Flushed {
				t.Fatal(r.name, "at", l.End, "is appended with the code", a.Code, "at", a.LSN, "up to", a.Log.End)
			}
			if a.Log.Sectors != l.Sectors || a.Log.Epoch != l.Epoch || !bytes.Equal(a.Log.Tail, append(bytes.Clone(l.Tail), frame...)) {
				t.Fatal(r.name, "at", l.End, "changes the log in another way too")
			}
			if impl.LogFault(a.Log) != 0 {
				t.Fatal(r.name, "at", l.End, "makes the log faulty")
			}
		}
	}
}

func TestLogAppendIsRefused(t *testing.T) {
	refuses := func(name string, l impl.Log, r impl.LogRecord) {
		t.Helper()
		if a := impl.LogAppend(l, r); a.Code != 1 || a.LSN != 0 || !isZeroTail(a.Log) {
			t.Errorf("%s: %+v", name, a)
		}
	}
	for _, l := range faultyTails() {
		for _, r := range plainLogs() {
			refuses(r.name+" behind "+l.name, l.log, r.record)
		}
	}
	for kind := int64(1); kind <= 8; kind++ {
		for _, breaks := range recordBreaks(kind) {
			for _, change := range breaks {
				r := logOf(kind)
				change(&r)
				refuses("a faulty record", flushedAt(16, 1, 600), r)
				refuses("a faulty record behind a faulty log", impl.Log{}, r)
			}
		}
	}
	refuses("the zero record", flushedAt(16, 1, 600), impl.LogRecord{})
}

func TestLogAppendUpToTheGreatestPlace(t *testing.T) {
	for _, r := range goodLogs() {
		size := 20 + int64(len(plainEncode(r.record)))
		last := flushedAt(16, 1, greatestLSN-size)
		if a := impl.LogAppend(last, r.record); a.Code != 0 || a.LSN != greatestLSN-size || a.Log.End != greatestLSN || impl.LogFault(a.Log) != 0 {
			t.Error(r.name, "that ends at the greatest place:", a.Code, a.Log.End)
		}
		for _, at := range []int64{greatestLSN - size + 1, greatestLSN - 1, greatestLSN} {
			if a := impl.LogAppend(flushedAt(16, 1, at), r.record); a.Code != 1 || a.LSN != 0 || !isZeroTail(a.Log) {
				t.Error(r.name, "that ends behind the greatest place, from", at, "on:", a.Code, a.Log.End)
			}
		}
	}
	end := impl.LogAppend(flushedAt(16, 1, greatestLSN-33), impl.LogRecord{Kind: impl.KindEnd, Txn: 1})
	if more := impl.LogAppend(end.Log, impl.LogRecord{Kind: impl.KindEnd, Txn: 1}); more.Code != 1 || !isZeroTail(more.Log) {
		t.Error("a record at the greatest place")
	}
}

func TestLogFlushOps(t *testing.T) {
	b := func(n int, v byte) []byte { return bytes.Repeat([]byte{v}, n) }
	cat := func(parts ...[]byte) []byte { return bytes.Join(parts, nil) }
	write := func(sector int64, data []byte) impl.Op {
		return impl.Op{Kind: impl.OpWrite, Sector: sector, Data: data}
	}
	sync := impl.Op{Kind: impl.OpSync}
	for _, c := range []struct {
		name string
		log  impl.Log
		want []impl.Op
	}{
		{"nothing to flush at a sector's beginning", flushedAt(16, 1, 1024), nil},
		{"nothing to flush within a sector", flushedAt(16, 1, 1100), nil},
		{"nothing to flush at a sector's end", flushedAt(16, 1, 1535), nil},
		{"nothing to flush at the greatest place", flushedAt(16, 1, greatestLSN), nil},
		{"a byte", impl.Log{Sectors: 16, Epoch: 1, End: 513, Flushed: 512, Tail: b(1, 7)},
			[]impl.Op{write(2, cat(b(1, 7), b(511, 0))), sync}},
		{"a byte behind others", impl.Log{Sectors: 16, Epoch: 1, End: 601, Flushed: 600, Tail: cat(b(88, 6), b(1, 7))},
			[]impl.Op{write(2, cat(b(88, 6), b(1, 7), b(423, 0))), sync}},
		{"the last byte of a sector", impl.Log{Sectors: 16, Epoch: 1, End: 1024, Flushed: 1023, Tail: cat(b(511, 6), b(1, 7))},
			[]impl.Op{write(2, cat(b(511, 6), b(1, 7))), sync}},
		{"a whole sector", impl.Log{Sectors: 16, Epoch: 1, End: 1536, Flushed: 1024, Tail: b(512, 7)},
			[]impl.Op{write(3, b(512, 7)), sync}},
		{"a byte more than a sector", impl.Log{Sectors: 16, Epoch: 1, End: 1537, Flushed: 1024, Tail: cat(b(512, 7), b(1, 8))},
			[]impl.Op{write(3, b(512, 7)), write(4, cat(b(1, 8), b(511, 0))), sync}},
		{"two bytes across a border", impl.Log{Sectors: 16, Epoch: 1, End: 1025, Flushed: 1023, Tail: cat(b(511, 6), b(1, 7), b(1, 8))},
			[]impl.Op{write(2, cat(b(511, 6), b(1, 7))), write(3, cat(b(1, 8), b(511, 0))), sync}},
		{"several sectors across the end of a round", impl.Log{Sectors: 16, Epoch: 1, End: 18*512 + 9, Flushed: 15*512 + 5, Tail: cat(b(512, 1), b(512, 2), b(512, 3), b(9, 4))},
			[]impl.Op{write(16, b(512, 1)), write(17, b(512, 2)), write(2, b(512, 3)), write(3, cat(b(9, 4), b(503, 0))), sync}},
		{"up to the end of a round", impl.Log{Sectors: 33, Epoch: 1, End: 34 * 512, Flushed: 32*512 + 5, Tail: cat(b(512, 1), b(512, 2))},
			[]impl.Op{write(33, b(512, 1)), write(34, b(512, 2)), sync}},
		{"up to the greatest place", impl.Log{Sectors: 33, Epoch: 1, End: greatestLSN, Flushed: greatestLSN - 513, Tail: cat(b(512, 1), b(512, 2))},
			[]impl.Op{write(34, b(512, 1)), write(2, b(512, 2)), sync}},
	} {
		if got := impl.LogFlushOps(c.log); !sameOps(got, c.want) {
			t.Error(c.name, "is flushed by", len(got), "operations, not these", len(c.want))
		}
	}
	for _, l := range faultyTails() {
		if got := impl.LogFlushOps(l.log); len(got) != 0 {
			t.Error(l.name, "is flushed by", len(got), "operations")
		}
	}
}

// TestLogFlushOpsGoRound has a tail that is longer than all sectors together.
func TestLogFlushOpsGoRound(t *testing.T) {
	l := impl.Log{Sectors: 16, Epoch: 1, End: 512 * 40, Flushed: 512, Tail: make([]byte, 512*39)}
	ops := impl.LogFlushOps(l)
	if len(ops) != 40 {
		t.Fatal("a tail of 39 sectors is flushed by", len(ops), "operations")
	}
	for i, op := range ops[:39] {
		if op.Kind != impl.OpWrite || op.Sector != 2+int64(i)%16 {
			t.Error("the operation", i, "writes to", op.Sector)
		}
	}
}

func TestLogFlushed(t *testing.T) {
	tail := func(n int) []byte {
		list := make([]byte, n)
		for i := range list {
			list[i] = byte(i % 251)
		}
		return list
	}
	for _, c := range []struct {
		name string
		log  impl.Log
		left int
	}{
		{"nothing to flush", impl.Log{Sectors: 16, Epoch: 4, End: 600, Flushed: 600, Tail: tail(88)}, 88},
		{"nothing at all", impl.Log{Sectors: 16, Epoch: 4, End: 512, Flushed: 512}, 0},
		{"within a sector", impl.Log{Sectors: 16, Epoch: 4, End: 700, Flushed: 600, Tail: tail(188)}, 188},
		{"up to a sector's end", impl.Log{Sectors: 16, Epoch: 4, End: 1024, Flushed: 600, Tail: tail(512)}, 0},
		{"a byte less", impl.Log{Sectors: 16, Epoch: 4, End: 1023, Flushed: 600, Tail: tail(511)}, 511},
		{"a byte more", impl.Log{Sectors: 16, Epoch: 4, End: 1025, Flushed: 600, Tail: tail(513)}, 1},
		{"several sectors", impl.Log{Sectors: 16, Epoch: 4, End: 512*20 + 77, Flushed: 600, Tail: tail(512*19 + 77)}, 77},
		{"up to the greatest place", impl.Log{Sectors: 16, Epoch: 4, End: greatestLSN, Flushed: greatestLSN - 700, Tail: tail(1024)}, 0},
	} {
		want := c.log
		want.Flushed = want.End
		want.Tail = c.log.Tail[len(c.log.Tail)-c.left:]
		got := impl.LogFlushed(c.log)
		if !sameTail(got, want) || impl.LogFault(got) != 0 || len(impl.LogFlushOps(got)) != 0 {
			t.Error(c.name, "is flushed to", got.End, got.Flushed, len(got.Tail))
		}
		if !sameTail(impl.LogFlushed(got), got) {
			t.Error(c.name, "flushed twice")
		}
	}
	for _, l := range faultyTails() {
		if got := impl.LogFlushed(l.log); !isZeroTail(got) {
			t.Errorf("%s is flushed to %+v", l.name, got)
		}
	}
}

func TestAnyLogIsFlushedPlainly(t *testing.T) {
	r := rand.New(rand.NewSource(53))
	for range 4000 {
		l := anyTail(r)
		if r.Intn(5) == 0 {
			l.Tail = l.Tail[:r.Intn(len(l.Tail)+1)]
		}
		record := anyLog(r)
		if r.Intn(9) == 0 {
			record.Txn = -record.Txn
		}
		if got := impl.LogAppend(l, record); !sameAppend(got, plainAppend(l, record)) {
			t.Fatal("a record of kind", record.Kind, "behind", l.End, l.Flushed, "is answered by", got.Code, got.LSN, got.Log.End)
		}
		if got := impl.LogFlushOps(l); !sameOps(got, plainFlushOps(l)) {
			t.Fatal("the operations of", l.Sectors, l.End, l.Flushed, "are", len(got))
		}
		if got := impl.LogFlushed(l); !sameTail(got, plainFlushed(l)) {
			t.Fatal("the log behind the flush of", l.Sectors, l.End, l.Flushed, "is at", got.Flushed, "with", len(got.Tail))
		}
	}
}
