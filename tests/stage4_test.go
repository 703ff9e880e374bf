package tests

import (
	"bytes"
	"encoding/hex"
	"math"
	"math/rand"
	"slices"
	"strings"
	"testing"

	"loop.example/s02544/impl"
)

// TestRecordForms has a record of each kind but the last, byte by byte.
func TestRecordForms(t *testing.T) {
	head := "00000007" + "0000000000000258"
	for i, want := range []string{
		"01" + head + "0002" + "0005" + "01" + "0003" + "6f6c64" + "01" + "0005" + "6e65776572",
		"02" + "00000007" + "00000000000002bc" + "0002" + "0005" + "01" + "0003" + "6f6c64" + "0000000000000258",
		"03" + head,
		"04" + head,
		"05" + head,
		"06" + "00000000" + "0000000000000000",
		"07" + "00000000" + "0000000000000000" + "00000009" + "02" +
			"00000003" + "01" + "00000000000002bc" + "000000000000028a" +
			"00000008" + "03" + "0000000000000320" + "0000000000000000" +
			"03" + "0001" + "0000000000000280" + "0004" + "0000000000000208" + "000f" + "0000000000000001",
		"08" + "00000000" + "0000000000000000" + "0003" + hex.EncodeToString(plainLogs()[7].record.Image),
	} {
		l := plainLogs()[i]
		if got := hex.EncodeToString(impl.EncodeRecord(l.record)); got != want {
			t.Error(l.name, "is encoded as", got)
		}
		b, err := hex.DecodeString(want)
		if r := impl.DecodeRecord(b); err != nil || !r.Good || !sameLog(r.Record, l.record) {
			t.Errorf("%s is decoded as %+v", l.name, r)
		}
	}
	for want, r := range map[string]impl.LogRecord{
		"01" + "7fffffff" + "0000010000000000" + "000f" + "001f" + "00" + "01" + "0000":                                            {Kind: 1, Txn: greatestTxn, Prev: greatestLSN, Page: 15, Slot: 31, After: impl.PageRecord{Used: true}},
		"01" + "00000001" + "0000000000000000" + "0000" + "0000" + "01" + "0000" + "00":                                            {Kind: 1, Txn: 1, Before: impl.PageRecord{Used: true}},
		"02" + "00000001" + "0000000000000000" + "0000" + "0000" + "00" + "0000010000000000":                                       {Kind: 2, Txn: 1, UndoNext: greatestLSN},
		"02" + "00000001" + "0000000000000000" + "0000" + "0000" + "01" + "03e8" + strings.Repeat("2a", 1000) + "0000000000000000": {Kind: 2, Txn: 1, After: longRecord(1000, 42)},
		"07" + "00000000" + "0000000000000000" + "80000000" + "00" + "00":                                                          {Kind: 7, NextTxn: greatestTxn + 1},
	} {
		if got := hex.EncodeToString(impl.EncodeRecord(r)); got != want {
			t.Error(want, "is encoded as", got)
		}
	}
}

func TestRecordsAreDecodedToTheSame(t *testing.T) {
	logs := goodLogs()
	r := rand.New(rand.NewSource(42))
	for range 3000 {
		logs = append(logs, namedLog{"any record", anyLog(r)})
	}
	kinds := map[int64]int{}
	for _, l := range logs {
		kinds[l.record.Kind]++
		b := impl.EncodeRecord(l.record)
		if !bytes.Equal(b, plainEncode(l.record)) {
			t.Fatalf("%s is encoded as %x", l.name, b)
		}
		got := impl.DecodeRecord(b)
		if !got.Good || !sameLog(got.Record, l.record) {
			t.Fatalf("%s is decoded as %+v", l.name, got)
		}
		if again := impl.EncodeRecord(got.Record); !bytes.Equal(again, b) {
			t.Fatalf("%s, decoded, is encoded as %x", l.name, again)
		}
	}
	for kind := int64(1); kind <= 8; kind++ {
		if kinds[kind] < 20 {
			t.Error("the kind", kind, "was seen", kinds[kind], "times")
		}
	}
}

// noRecord holds bytes that are none against the whole answer.
func noRecord(t *testing.T, name string, b []byte) {
	t.Helper()
	if r := impl.DecodeRecord(b); r.Good || !isZeroLog(r.Record) {
		t.Errorf("%s is taken as %+v", name, r)
	}
}

func TestRecordsCutOrGrown(t *testing.T) {
	noRecord(t, "nil", nil)
	noRecord(t, "no bytes", []byte{})
	for kind := range 256 {
		noRecord(t, "a kind alone", []byte{byte(kind)})
	}
	for _, l := range goodLogs() {
		b := impl.EncodeRecord(l.record)
		for n := range b {
			if n < 200 || n > len(b)-20 {
				noRecord(t, l.name+", cut", b[:n])
			}
			if n == 1 || n == len(b)-1 {
				noRecord(t, l.name+", cut ahead", b[n:])
			}
		}
		for _, more := range [][]byte{{0}, {1}, {255}, {0, 0}, make([]byte, 13), b} {
			noRecord(t, l.name+", grown", append(bytes.Clone(b), more...))
		}
		noRecord(t, l.name+", a byte ahead", append([]byte{0}, b...))
	}
}

func TestRecordsOfAnotherKind(t *testing.T) {
	for _, l := range goodLogs() {
		for kind := range 256 {
			b := impl.EncodeRecord(l.record)
			b[0] = byte(kind)
			want, good := plainDecode(b)
			got := impl.DecodeRecord(b)
			if got.Good != good || !sameLog(got.Record, want) {
				t.Errorf("%s as the kind %d is taken as %+v", l.name, kind, got)
			}
			// A Commit, an Abort and an End have one form but for the kind.
			if swaps := within(l.record.Kind, 3, 5) && within(int64(kind), 3, 5); good != (swaps || int64(kind) == l.record.Kind) {
				t.Error(l.name, "as the kind", kind, "is good:", good)
			}
		}
	}
}

// TestRecordsWithFaultyFields lays the bytes of records that have a fault.
func TestRecordsWithFaultyFields(t *testing.T) {
	seen := map[int64]int{}
	for kind := int64(1); kind <= 8; kind++ {
		for fault, breaks := range recordBreaks(kind) {
			for _, change := range breaks {
				r := logOf(kind)
				change(&r)
				b := plainEncode(r)
				if want, good := plainDecode(b); good {
					// What the bytes do not tell is not at fault there: a field that its kind does not have.
					if got := impl.DecodeRecord(b); !got.Good || !sameLog(got.Record, want) {
						t.Errorf("%x is taken as %+v", b, got)
					}
					continue
				}
				seen[fault]++
				noRecord(t, "a faulty record", b)
			}
		}
	}
	for fault := int64(1); fault <= 9; fault++ {
		if seen[fault] == 0 {
			t.Error("no bytes with the fault", fault)
		}
	}
}

func TestRecordsOfCheckpointsHaveNoHead(t *testing.T) {
	for kind := int64(6); kind <= 8; kind++ {
		for at := 1; at < 13; at++ {
			b := impl.EncodeRecord(logOf(kind))
			b[at] = 1
			noRecord(t, "a head that is not 0", b)
		}
	}
}

func TestRecordsWithSlotMarks(t *testing.T) {
	update, undo := impl.EncodeRecord(logOf(1)), impl.EncodeRecord(logOf(2))
	for mark := 2; mark < 256; mark++ {
		for _, at := range []int{17, 23} {
			b := bytes.Clone(update)
			b[at] = byte(mark)
			noRecord(t, "an Update's mark", b)
		}
		b := bytes.Clone(undo)
		b[17] = byte(mark)
		noRecord(t, "an Undo's mark", b)
		insert := impl.EncodeRecord(impl.LogRecord{Kind: 1, Txn: 1, After: recordOf("a")})
		insert[17] = byte(mark)
		noRecord(t, "the mark of a slot that is not used", insert)
		restored := impl.EncodeRecord(impl.LogRecord{Kind: 2, Txn: 1})
		restored[17] = byte(mark)
		noRecord(t, "the mark of an Undo that is not used", restored)
	}
	for _, at := range []int{17, 23} {
		b := bytes.Clone(update)
		b[at] = 0
		noRecord(t, "a slot that is not used, but has bytes", b)
	}
	neither := append(bytes.Clone(update[:17]), 0, 0)
	noRecord(t, "neither slot is used", neither)
}

// TestRecordsWithLengths tells other lengths than there are bytes.
func TestRecordsWithLengths(t *testing.T) {
	update := impl.EncodeRecord(logOf(1))
	for _, at := range []int{18, 24} {
		right := int64(update[at])<<8 | int64(update[at+1])
		for length := range int64(65536) {
			if length == right || length > 1100 && length%257 != 0 {
				continue
			}
			b := bytes.Clone(update)
			b[at], b[at+1] = byte(length>>8), byte(length)
			noRecord(t, "a wrong length", b)
		}
	}
	long := plainEncode(impl.LogRecord{Kind: 1, Txn: 1, After: longRecord(1001, 1)})
	noRecord(t, "1001 bytes", long)
	noRecord(t, "1001 bytes of an Undo", plainEncode(impl.LogRecord{Kind: 2, Txn: 1, After: longRecord(1001, 1)}))
	noRecord(t, "65535 bytes", plainEncode(impl.LogRecord{Kind: 1, Txn: 1, Before: longRecord(65535, 1)}))
}

// TestRecordsWithCounts tells other numbers of entries than there are.
func TestRecordsWithCounts(t *testing.T) {
	for _, r := range []impl.LogRecord{logOf(7), fullTables(), {Kind: 7, NextTxn: 1}} {
		b := impl.EncodeRecord(r)
		for _, at := range []int{17, 18 + 21*len(r.Txns)} {
			for count := range 256 {
				if int(b[at]) == count {
					continue
				}
				other := bytes.Clone(b)
				other[at] = byte(count)
				noRecord(t, "a wrong count", other)
				noRecord(t, "a wrong count and enough bytes", append(other, make([]byte, 6000)...))
			}
		}
	}
	more := fullTables()
	more.Txns = append([]impl.TxnEntry{{Txn: 1, State: 1, Last: 1}}, more.Txns...)
	noRecord(t, "9 transactions", plainEncode(more))
	more = fullTables()
	more.Dirty = append(more.Dirty, impl.DirtyEntry{Page: 16, RecLSN: 1})
	noRecord(t, "17 pages", plainEncode(more))
}

// TestRecordsWithTurnedBytes holds each change of one byte against the plain rules.
func TestRecordsWithTurnedBytes(t *testing.T) {
	good := 0
	for _, l := range goodLogs() {
		b := impl.EncodeRecord(l.record)
		for at := range b {
			if at > 200 && at < len(b)-16 {
				continue
			}
			for _, x := range []byte{0, 1, 2, 3, 127, 128, 255, b[at] + 1, b[at] - 1} {
				other := bytes.Clone(b)
				other[at] = x
				good += asPlain(t, l.name, other)
			}
		}
	}
	if good == 0 {
		t.Error("no change was taken")
	}
}

// asPlain tells 1, if the bytes are a record.
func asPlain(t *testing.T, name string, b []byte) int {
	t.Helper()
	want, is := plainDecode(b)
	got := impl.DecodeRecord(b)
	if got.Good != is || !sameLog(got.Record, want) {
		t.Fatalf("%s: %x is taken as %+v", name, b, got)
	}
	if !is {
		return 0
	}
	if !bytes.Equal(impl.EncodeRecord(got.Record), b) {
		t.Fatalf("%s: %x is decoded, but not encoded to itself", name, b)
	}
	return 1
}

func TestAnyBytesAsRecords(t *testing.T) {
	r := rand.New(rand.NewSource(43))
	good := 0
	for range 20000 {
		b := someBytes(r, r.Intn(80))
		if len(b) > 0 {
			b[0] = byte(r.Intn(10))
		}
		for i := 1; i < len(b); i++ {
			if r.Intn(3) > 0 {
				b[i] = byte(r.Intn(2))
			}
		}
		good += asPlain(t, "any bytes", b)
	}
	for range 5000 {
		b := impl.EncodeRecord(anyLog(r))
		for range 1 + r.Intn(3) {
			at := r.Intn(min(len(b), 60))
			switch r.Intn(3) {
			case 0:
				b[at] = byte(r.Intn(256))
			case 1:
				b = slices.Delete(b, at, at+1)
			case 2:
				b = slices.Insert(b, at, byte(r.Intn(3)))
			}
		}
		good += asPlain(t, "a changed record", b)
	}
	if good < 100 {
		t.Error("only", good, "were records")
	}
}

func TestUndoOf(t *testing.T) {
	long := longRecord(1000, 9)
	for _, c := range []struct {
		name string
		r    impl.LogRecord
		want impl.LogRecord
	}{
		{"a change", logOf(1), impl.LogRecord{Kind: 2, Txn: 7, Page: 2, Slot: 5, After: recordOf("old"), UndoNext: 600}},
		{"an insert", impl.LogRecord{Kind: 1, Txn: 1, After: long}, impl.LogRecord{Kind: 2, Txn: 1}},
		{"a delete", impl.LogRecord{Kind: 1, Txn: greatestTxn, Prev: greatestLSN, Page: 15, Slot: 31, Before: long}, impl.LogRecord{Kind: 2, Txn: greatestTxn, Page: 15, Slot: 31, After: long, UndoNext: greatestLSN}},
		{"a delete of no bytes", impl.LogRecord{Kind: 1, Txn: 3, Prev: 1, Before: impl.PageRecord{Used: true}}, impl.LogRecord{Kind: 2, Txn: 3, After: impl.PageRecord{Used: true}, UndoNext: 1}},
	} {
		got := impl.UndoOf(c.r)
		if !sameLog(got, c.want) || impl.RecordFault(got) != 0 {
			t.Errorf("UndoOf %s is %+v", c.name, got)
		}
		if !isZeroLog(impl.UndoOf(got)) {
			t.Error("the Undo of", c.name, "is undone")
		}
	}
	for _, l := range goodLogs() {
		if got := impl.UndoOf(l.record); isZeroLog(got) != (l.record.Kind != 1) {
			t.Errorf("UndoOf %s is %+v", l.name, got)
		}
	}
	for fault, breaks := range recordBreaks(1) {
		for _, change := range breaks {
			r := logOf(1)
			change(&r)
			if got := impl.UndoOf(r); !isZeroLog(got) {
				t.Errorf("UndoOf an Update with the fault %d is %+v", fault, got)
			}
		}
	}
	for _, kind := range []int64{0, 9, -1, math.MaxInt64, math.MinInt64} {
		r := logOf(1)
		r.Kind = kind
		if got := impl.UndoOf(r); !isZeroLog(got) {
			t.Errorf("UndoOf the kind %d is %+v", kind, got)
		}
	}
	if !isZeroLog(impl.UndoOf(impl.LogRecord{})) {
		t.Error("UndoOf nothing")
	}
}
