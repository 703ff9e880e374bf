package tests

import (
	"bytes"
	"math/rand"
	"sync"
	"testing"

	"loop.example/s02544/impl"
)

// logAnswer is the answer of any call of chapter 4.
type logAnswer struct {
	number int64
	size   int64
	epoch  int64
	yes    bool
	list   []byte
	record impl.LogRecord
}

func (a logAnswer) same(b logAnswer) bool {
	return a.number == b.number && a.size == b.size && a.epoch == b.epoch && a.yes == b.yes && bytes.Equal(a.list, b.list) && sameLog(a.record, b.record)
}

func (a logAnswer) copy() logAnswer {
	a.list = append([]byte(nil), a.list...)
	a.record = copyLog(a.record)
	return a
}

func (a logAnswer) scribble(v byte) {
	scribble(a.list, v)
	scribbleLog(a.record, v)
}

// scribbleLog writes over all that the record's lists can reach, also behind their ends.
func scribbleLog(r impl.LogRecord, v byte) {
	scribble(r.Before.Data, v)
	scribble(r.After.Data, v)
	scribble(r.Image, v)
	txns, dirty := r.Txns[:cap(r.Txns)], r.Dirty[:cap(r.Dirty)]
	for i := range txns {
		txns[i] = impl.TxnEntry{Txn: int64(v), State: int64(v)}
	}
	for i := range dirty {
		dirty[i] = impl.DirtyEntry{Page: int64(v)}
	}
}

// roomyLog has lists that have something behind their ends too.
func roomyLog(r impl.LogRecord) impl.LogRecord {
	r.Before.Data, r.After.Data, r.Image = roomy(r.Before.Data), roomy(r.After.Data), roomy(r.Image)
	txns := append(append([]impl.TxnEntry(nil), r.Txns...), impl.TxnEntry{Txn: 77}, impl.TxnEntry{State: 78})
	dirty := append(append([]impl.DirtyEntry(nil), r.Dirty...), impl.DirtyEntry{Page: 77}, impl.DirtyEntry{RecLSN: 78})
	r.Txns, r.Dirty = txns[:len(r.Txns)], dirty[:len(r.Dirty)]
	return r
}

// wholeLog shows what stands behind the ends of the lists too.
func wholeLog(r impl.LogRecord) impl.LogRecord {
	r.Before.Data = r.Before.Data[:cap(r.Before.Data)]
	r.After.Data = r.After.Data[:cap(r.After.Data)]
	r.Image = r.Image[:cap(r.Image)]
	r.Txns, r.Dirty = r.Txns[:cap(r.Txns)], r.Dirty[:cap(r.Dirty)]
	return r
}

// logCalls take a record or bytes.
func logCalls() map[string]func(r impl.LogRecord, b []byte) logAnswer {
	decode := func(lsn, least, most int64) func(r impl.LogRecord, b []byte) logAnswer {
		return func(_ impl.LogRecord, b []byte) logAnswer {
			f := impl.DecodeFrame(b, lsn, least, most)
			return logAnswer{number: f.Code, size: f.Size, epoch: f.Epoch, record: f.Record}
		}
	}
	encode := func(lsn, epoch int64) func(r impl.LogRecord, b []byte) logAnswer {
		return func(r impl.LogRecord, _ []byte) logAnswer { return logAnswer{list: impl.EncodeFrame(lsn, epoch, r)} }
	}
	return map[string]func(r impl.LogRecord, b []byte) logAnswer{
		"RecordFault":  func(r impl.LogRecord, _ []byte) logAnswer { return logAnswer{number: impl.RecordFault(r)} },
		"EncodeRecord": func(r impl.LogRecord, _ []byte) logAnswer { return logAnswer{list: impl.EncodeRecord(r)} },
		"FrameSize":    func(r impl.LogRecord, _ []byte) logAnswer { return logAnswer{number: impl.FrameSize(r)} },
		"UndoOf":       func(r impl.LogRecord, _ []byte) logAnswer { return logAnswer{record: impl.UndoOf(r)} },
		"DecodeRecord": func(_ impl.LogRecord, b []byte) logAnswer {
			r := impl.DecodeRecord(b)
			return logAnswer{yes: r.Good, record: r.Record}
		},
		"DecodeRecord behind a head": func(_ impl.LogRecord, b []byte) logAnswer {
			r := impl.DecodeRecord(b[min(20, len(b)):])
			return logAnswer{yes: r.Good, record: r.Record}
		},
		"EncodeFrame":                      encode(512, 5),
		"EncodeFrame at no place":          encode(0, 5),
		"EncodeFrame in no epoch":          encode(512, 0),
		"DecodeFrame":                      decode(512, 1, 9),
		"DecodeFrame at another place":     decode(513, 1, 9),
		"DecodeFrame in other epochs":      decode(512, 6, 9),
		"DecodeFrame, least above most":    decode(512, 9, 1),
		"DecodeFrame at a place below all": decode(-1, 1, 9),
	}
}

type logArgument struct {
	name   string
	record impl.LogRecord
	bytes  []byte
}

// logArguments are records with their encodings and frames; some good, some not.
func logArguments() []logArgument {
	var list []logArgument
	for _, l := range goodLogs() {
		record := plainEncode(l.record)
		frame := plainFrame(512, 5, record)
		list = append(list,
			logArgument{l.name, l.record, record},
			logArgument{l.name + ", framed", l.record, frame},
			logArgument{l.name + ", framed, with more behind", l.record, append(bytes.Clone(frame), 1, 2, 3)},
			logArgument{l.name + ", cut", l.record, frame[:len(frame)-1]})
	}
	for kind := int64(1); kind <= 8; kind++ {
		for _, breaks := range recordBreaks(kind) {
			r := logOf(kind)
			breaks[0](&r)
			list = append(list, logArgument{"a faulty record", r, plainFrame(512, 5, plainEncode(r))})
		}
	}
	return append(list, logArgument{"nothing", impl.LogRecord{}, nil})
}

func TestLogCallsChangeNoArgument(t *testing.T) {
	for _, a := range logArguments() {
		for name, call := range logCalls() {
			record, b := roomyLog(a.record), roomy(a.bytes)
			recordBefore := copyLog(wholeLog(record))
			bytesBefore := append([]byte(nil), b[:cap(b)]...)
			first := call(record, b)
			kept := first.copy()
			first.scribble(99)
			if !bytes.Equal(b[:cap(b)], bytesBefore) || !sameLog(wholeLog(record), recordBefore) {
				t.Fatal(name, "of", a.name, "changes an argument or answers its memory")
			}
			if !call(record, b).same(kept) || !call(a.record, a.bytes).same(kept) {
				t.Fatal(name, "of", a.name, "answers something else to the same arguments")
			}
		}
	}
}

func TestLogAnswersOutliveTheArguments(t *testing.T) {
	for _, a := range logArguments() {
		for name, call := range logCalls() {
			record, b := roomyLog(a.record), roomy(a.bytes)
			answer := call(record, b)
			kept := answer.copy()
			scribbleLog(record, 99)
			scribble(b, 98)
			call(a.record, a.bytes).scribble(97)
			if !answer.same(kept) {
				t.Fatal(name, "of", a.name, "keeps memory of an argument or answers the same memory twice")
			}
		}
	}
}

// TestListsOfOneRecordShareNothing writes over each list of an answer, to its very end, in turn.
func TestListsOfOneRecordShareNothing(t *testing.T) {
	for _, a := range logArguments() {
		for name, call := range logCalls() {
			for i := range 5 {
				got := call(a.record, a.bytes).record
				kept := copyLog(got)
				switch i {
				case 0:
					scribble(got.Before.Data, 99)
					got.Before.Data = kept.Before.Data
				case 1:
					scribble(got.After.Data, 99)
					got.After.Data = kept.After.Data
				case 2:
					scribble(got.Image, 99)
					got.Image = kept.Image
				case 3:
					scribbleLog(impl.LogRecord{Txns: got.Txns}, 99)
					got.Txns = kept.Txns
				case 4:
					scribbleLog(impl.LogRecord{Dirty: got.Dirty}, 99)
					got.Dirty = kept.Dirty
				}
				if !sameLog(got, kept) {
					t.Fatal(name, "of", a.name, "has lists that share memory")
				}
			}
		}
	}
}

// TestRecordsWithOneListTwice hands in a list that stands in two fields.
func TestRecordsWithOneListTwice(t *testing.T) {
	data := []byte("shared")
	both := impl.PageRecord{Used: true, Data: data}
	r := impl.LogRecord{Kind: 1, Txn: 1, Before: both, After: both}
	undo := impl.UndoOf(r)
	got := impl.DecodeRecord(impl.EncodeRecord(r))
	scribble(data, 7)
	if string(undo.After.Data) != "shared" || string(got.Record.Before.Data) != "shared" || string(got.Record.After.Data) != "shared" {
		t.Error("an answer has memory of the argument")
	}
	scribble(got.Record.Before.Data, 8)
	if string(got.Record.After.Data) != "shared" {
		t.Error("the two slots share memory")
	}
}

// TestLogCallsHangOnTheArgumentsAlone makes other calls between two that are the same.
func TestLogCallsHangOnTheArgumentsAlone(t *testing.T) {
	arguments := logArguments()
	for name, call := range logCalls() {
		var want []logAnswer
		for _, a := range arguments {
			want = append(want, call(a.record, a.bytes))
		}
		for i := len(arguments) - 1; i >= 0; i-- {
			if !call(arguments[i].record, arguments[i].bytes).same(want[i]) {
				t.Fatal(name, "of", arguments[i].name, "answers something else behind other calls")
			}
		}
	}
}

func TestLogCallsAtTheSameTime(t *testing.T) {
	calls, arguments := logCalls(), logArguments()
	want := map[string][]logAnswer{}
	for name, call := range calls {
		for _, a := range arguments {
			want[name] = append(want[name], call(a.record, a.bytes))
		}
	}
	var all sync.WaitGroup
	var wrong [8]int64
	for i := range wrong {
		all.Go(func() {
			for name, call := range calls {
				for k, a := range arguments {
					if !call(a.record, a.bytes).same(want[name][k]) {
						wrong[i]++
					}
				}
			}
		})
	}
	all.Wait()
	if wrong != [8]int64{} {
		t.Error("calls that are made at the same time")
	}
}

func TestAnyBytesAreAnsweredAsLog(t *testing.T) {
	r := rand.New(rand.NewSource(46))
	calls := logCalls()
	for range 3000 {
		b := someBytes(r, r.Intn(200))
		if r.Intn(2) == 0 && len(b) > 20 {
			copy(b, impl.PutNumber(int64(len(b)), 4))
			b[20] = byte(r.Intn(10))
			copy(b[4:], impl.PutNumber(impl.Crc(b[8:]), 4))
		}
		for _, call := range calls {
			call(impl.LogRecord{Kind: int64(r.Intn(10)), Txn: r.Int63() - r.Int63(), Image: b}, b)
		}
	}
}
