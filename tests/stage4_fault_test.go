package tests

import (
	"math"
	"math/rand"
	"slices"
	"testing"

	"loop.example/s02544/impl"
)

func TestRecordConstants(t *testing.T) {
	got := []int64{impl.MaxTxns, impl.MaxTxnId, impl.MaxEpoch, impl.FrameHead, impl.MaxFrame, impl.EndSize}
	got = append(got, impl.KindUpdate, impl.KindUndo, impl.KindCommit, impl.KindAbort, impl.KindEnd, impl.KindBegin, impl.KindTables, impl.KindImage)
	got = append(got, impl.StateActive, impl.StateCommitted, impl.StateAborting)
	want := []int64{8, 2147483647, 4294967295, 20, 4131, 33, 1, 2, 3, 4, 5, 6, 7, 8, 1, 2, 3}
	if !slices.Equal(got, want) {
		t.Error("the constants are", got)
	}
}

// refused holds a faulty record against each function that has to refuse it.
func refused(t *testing.T, name string, r impl.LogRecord, want int64) {
	t.Helper()
	if got := impl.RecordFault(r); got != want {
		t.Error(name, "has the fault", got, "not", want)
	}
	if plainRecordFault(r) != want {
		t.Error(name, "is told by the plain rules as", plainRecordFault(r))
	}
	if len(impl.EncodeRecord(r)) != 0 || impl.FrameSize(r) != 0 || len(impl.EncodeFrame(512, 1, r)) != 0 || !isZeroLog(impl.UndoOf(r)) {
		t.Error(name, "is encoded, framed, sized or undone")
	}
}

func TestRecordsWithoutFault(t *testing.T) {
	for _, l := range goodLogs() {
		if got := impl.RecordFault(l.record); got != 0 || plainRecordFault(l.record) != 0 {
			t.Error(l.name, "has the fault", got)
		}
	}
}

func TestRecordFaultOfOtherKinds(t *testing.T) {
	for _, kind := range []int64{0, -1, 9, 10, 255, 256, 257, 264, 1 << 32, 1<<32 + 1, math.MaxInt64, math.MinInt64, math.MinInt64 + 1} {
		for _, l := range goodLogs() {
			r := l.record
			r.Kind = kind
			refused(t, l.name, r, 1)
		}
		refused(t, "nothing but a kind", impl.LogRecord{Kind: kind}, 1)
	}
}

// fieldValues set a field to something that is not zero.
func fieldValues() map[string][]func(r *impl.LogRecord) {
	values := map[string][]func(r *impl.LogRecord){
		"Before": {
			func(r *impl.LogRecord) { r.Before = impl.PageRecord{Used: true} },
			func(r *impl.LogRecord) { r.Before = recordOf("x") },
			func(r *impl.LogRecord) { r.Before = impl.PageRecord{Data: []byte{0}} },
			func(r *impl.LogRecord) { r.Before = longRecord(1001, 1) },
		},
		"After": {
			func(r *impl.LogRecord) { r.After = impl.PageRecord{Used: true} },
			func(r *impl.LogRecord) { r.After = recordOf("x") },
			func(r *impl.LogRecord) { r.After = impl.PageRecord{Data: []byte{0}} },
			func(r *impl.LogRecord) { r.After = longRecord(1001, 1) },
		},
		"Txns": {
			func(r *impl.LogRecord) { r.Txns = []impl.TxnEntry{{}} },
			func(r *impl.LogRecord) { r.Txns = []impl.TxnEntry{{Txn: 1, State: 1, Last: 1}} },
			func(r *impl.LogRecord) { r.Txns = make([]impl.TxnEntry, 9) },
		},
		"Dirty": {
			func(r *impl.LogRecord) { r.Dirty = []impl.DirtyEntry{{}} },
			func(r *impl.LogRecord) { r.Dirty = []impl.DirtyEntry{{Page: 1, RecLSN: 1}} },
			func(r *impl.LogRecord) { r.Dirty = make([]impl.DirtyEntry, 17) },
		},
		"Image": {
			func(r *impl.LogRecord) { r.Image = []byte{0} },
			func(r *impl.LogRecord) { r.Image = impl.PageNew(0) },
			func(r *impl.LogRecord) { r.Image = make([]byte, 5000) },
		},
	}
	numbers := map[string]func(r *impl.LogRecord) *int64{
		"Txn":      func(r *impl.LogRecord) *int64 { return &r.Txn },
		"Prev":     func(r *impl.LogRecord) *int64 { return &r.Prev },
		"Page":     func(r *impl.LogRecord) *int64 { return &r.Page },
		"Slot":     func(r *impl.LogRecord) *int64 { return &r.Slot },
		"UndoNext": func(r *impl.LogRecord) *int64 { return &r.UndoNext },
		"NextTxn":  func(r *impl.LogRecord) *int64 { return &r.NextTxn },
	}
	for name, field := range numbers {
		for _, v := range []int64{1, -1, 2, 256, 1 << 32, math.MaxInt64, math.MinInt64} {
			values[name] = append(values[name], func(r *impl.LogRecord) { *field(r) = v })
		}
	}
	return values
}

func TestRecordFaultOfOtherFields(t *testing.T) {
	seen := 0
	for _, l := range goodLogs() {
		for field, values := range fieldValues() {
			if slices.Contains(fieldsOf(l.record.Kind), field) {
				continue
			}
			for _, set := range values {
				r := copyLog(l.record)
				set(&r)
				refused(t, l.name+" with "+field, r, 2)
				seen++
			}
		}
	}
	if seen == 0 {
		t.Error("no field was looked at")
	}
}

func TestRecordFaultOfEmptyLists(t *testing.T) {
	for _, l := range goodLogs() {
		r := copyLog(l.record)
		if len(r.Before.Data) == 0 {
			r.Before.Data = []byte{}
		}
		if len(r.After.Data) == 0 {
			r.After.Data = []byte{}
		}
		if len(r.Image) == 0 {
			r.Image = []byte{}
		}
		if len(r.Txns) == 0 {
			r.Txns = make([]impl.TxnEntry, 0, 3)
		}
		if len(r.Dirty) == 0 {
			r.Dirty = []impl.DirtyEntry{}
		}
		if got := impl.RecordFault(r); got != 0 {
			t.Error(l.name, "with empty lists has the fault", got)
		}
		if string(impl.EncodeRecord(r)) != string(impl.EncodeRecord(l.record)) || impl.FrameSize(r) != impl.FrameSize(l.record) {
			t.Error(l.name, "with empty lists is another record")
		}
		if !sameLog(impl.UndoOf(r), impl.UndoOf(l.record)) {
			t.Error(l.name, "with empty lists is undone otherwise")
		}
	}
}

// logOf is the first plain record of the kind.
func logOf(kind int64) impl.LogRecord { return copyLog(plainLogs()[kind-1].record) }

func TestRecordFaultOfNumbers(t *testing.T) {
	fields := []struct {
		name        string
		kinds       []int64
		field       func(r *impl.LogRecord) *int64
		least, most int64
		fault       int64
	}{
		{"Txn", []int64{1, 2, 3, 4, 5}, func(r *impl.LogRecord) *int64 { return &r.Txn }, 1, greatestTxn, 3},
		{"Prev", []int64{1, 2, 3, 4, 5}, func(r *impl.LogRecord) *int64 { return &r.Prev }, 0, greatestLSN, 4},
		{"Page", []int64{1, 2}, func(r *impl.LogRecord) *int64 { return &r.Page }, 0, 15, 5},
		{"Slot", []int64{1, 2}, func(r *impl.LogRecord) *int64 { return &r.Slot }, 0, 31, 5},
		{"UndoNext", []int64{2}, func(r *impl.LogRecord) *int64 { return &r.UndoNext }, 0, greatestLSN, 7},
		{"NextTxn", []int64{7}, func(r *impl.LogRecord) *int64 { return &r.NextTxn }, 1, greatestTxn + 1, 8},
		{"a transaction", []int64{7}, func(r *impl.LogRecord) *int64 { r.Txns = r.Txns[:1]; return &r.Txns[0].Txn }, 1, greatestTxn, 8},
		{"a state", []int64{7}, func(r *impl.LogRecord) *int64 { return &r.Txns[0].State }, 1, 3, 8},
		{"the last state", []int64{7}, func(r *impl.LogRecord) *int64 { return &r.Txns[1].State }, 1, 3, 8},
		{"Last", []int64{7}, func(r *impl.LogRecord) *int64 { r.Txns[0].UndoNext = 0; return &r.Txns[0].Last }, 1, greatestLSN, 8},
		{"the last Last", []int64{7}, func(r *impl.LogRecord) *int64 { return &r.Txns[1].Last }, 1, greatestLSN, 8},
		{"its UndoNext", []int64{7}, func(r *impl.LogRecord) *int64 { return &r.Txns[0].UndoNext }, 0, 700, 8},
		{"the last UndoNext", []int64{7}, func(r *impl.LogRecord) *int64 { return &r.Txns[1].UndoNext }, 0, 800, 8},
		{"a dirty page", []int64{7}, func(r *impl.LogRecord) *int64 { r.Dirty = r.Dirty[:1]; return &r.Dirty[0].Page }, 0, 15, 8},
		{"RecLSN", []int64{7}, func(r *impl.LogRecord) *int64 { return &r.Dirty[0].RecLSN }, 1, greatestLSN, 8},
		{"the last RecLSN", []int64{7}, func(r *impl.LogRecord) *int64 { return &r.Dirty[2].RecLSN }, 1, greatestLSN, 8},
	}
	for _, f := range fields {
		for _, kind := range f.kinds {
			for _, v := range []int64{f.least, f.least + 1, f.most - 1, f.most} {
				r := logOf(kind)
				*f.field(&r) = v
				if got := impl.RecordFault(r); got != 0 || len(impl.EncodeRecord(r)) == 0 {
					t.Error("kind", kind, "with", f.name, v, "has the fault", got)
				}
			}
			for _, v := range []int64{f.least - 1, f.most + 1, -1 - f.most, f.least + 1<<32, f.least + 1<<48, math.MaxInt64, math.MinInt64} {
				r := logOf(kind)
				if *f.field(&r) = v; within(v, f.least, f.most) {
					continue // what a bit far up does not put out of bounds
				}
				refused(t, f.name, r, f.fault)
			}
		}
	}
}

func TestRecordFaultOfImages(t *testing.T) {
	for _, page := range []int64{0, 15} {
		if got := impl.RecordFault(impl.LogRecord{Kind: 8, Page: page, Image: impl.PageNew(page)}); got != 0 {
			t.Error("the image of the page", page, "has the fault", got)
		}
	}
	for _, page := range []int64{-1, 16, 17, 1 << 16, 1<<16 + 3, 1 << 32, math.MaxInt64, math.MinInt64} {
		refused(t, "an image of no page", impl.LogRecord{Kind: 8, Page: page, Image: laidPage(uint32(page), 5, 4000)}, 5)
	}
	for page := range int64(16) {
		want := int64(9)
		if page == 3 {
			want = 0
		}
		if got := impl.RecordFault(impl.LogRecord{Kind: 8, Page: page, Image: impl.PageNew(3)}); got != want {
			t.Error("the page 3 as", page, "has the fault", got)
		}
	}
	refused(t, "no image", impl.LogRecord{Kind: 8}, 9)
	for _, p := range faultyPages() {
		refused(t, p.name, impl.LogRecord{Kind: 8, Page: 3, Image: p.page}, 9)
	}
}

func TestRecordFaultOfSlots(t *testing.T) {
	none := impl.PageRecord{}
	stray := impl.PageRecord{Data: []byte{1}}
	for _, c := range []struct {
		name          string
		before, after impl.PageRecord
		want          int64
	}{
		{"neither is used", none, none, 6},
		{"neither is used, empty lists", impl.PageRecord{Data: []byte{}}, impl.PageRecord{Data: []byte{}}, 6},
		{"the first alone", recordOf("a"), none, 0},
		{"the second alone", none, recordOf("a"), 0},
		{"no bytes ahead", impl.PageRecord{Used: true}, none, 0},
		{"no bytes behind", none, impl.PageRecord{Used: true}, 0},
		{"1000 bytes ahead", longRecord(1000, 1), none, 0},
		{"1000 bytes behind", none, longRecord(1000, 1), 0},
		{"1000 bytes twice", longRecord(1000, 1), longRecord(1000, 2), 0},
		{"1001 bytes ahead", longRecord(1001, 1), none, 6},
		{"1001 bytes behind", none, longRecord(1001, 1), 6},
		{"1001 bytes ahead of a short one", longRecord(1001, 1), recordOf("a"), 6},
		{"1001 bytes behind a short one", recordOf("a"), longRecord(1001, 1), 6},
		{"70000 bytes", longRecord(70000, 1), recordOf("a"), 6},
		{"65536 bytes behind", recordOf("a"), longRecord(65536, 1), 6},
		{"not used and has a byte, ahead", stray, recordOf("a"), 6},
		{"not used and has a byte, behind", recordOf("a"), stray, 6},
		{"neither is used, both have bytes", stray, stray, 6},
		{"not used and has 1001 bytes", impl.PageRecord{Data: make([]byte, 1001)}, recordOf("a"), 6},
	} {
		r := impl.LogRecord{Kind: 1, Txn: 1, Before: c.before, After: c.after}
		if c.want != 0 {
			refused(t, c.name, r, c.want)
		} else if got := impl.RecordFault(r); got != 0 {
			t.Error(c.name, "has the fault", got)
		}
	}
	for _, after := range []impl.PageRecord{none, recordOf("a"), {Used: true}, longRecord(1000, 1)} {
		if got := impl.RecordFault(impl.LogRecord{Kind: 2, Txn: 1, After: after}); got != 0 {
			t.Error("an Undo of", len(after.Data), "bytes has the fault", got)
		}
	}
	for _, after := range []impl.PageRecord{stray, longRecord(1001, 1), {Data: make([]byte, 1001)}} {
		refused(t, "an Undo", impl.LogRecord{Kind: 2, Txn: 1, After: after}, 6)
	}
}

func TestRecordFaultOfEntries(t *testing.T) {
	txn := func(ids ...int64) impl.LogRecord {
		r := impl.LogRecord{Kind: 7, NextTxn: 1}
		for _, id := range ids {
			r.Txns = append(r.Txns, impl.TxnEntry{Txn: id, State: 1, Last: 600, UndoNext: 600})
		}
		return r
	}
	dirty := func(pages ...int64) impl.LogRecord {
		r := impl.LogRecord{Kind: 7, NextTxn: 1}
		for _, page := range pages {
			r.Dirty = append(r.Dirty, impl.DirtyEntry{Page: page, RecLSN: 600})
		}
		return r
	}
	all := []int64{0, 1, 2, 3, 4, 5, 6, 7, 8, 9, 10, 11, 12, 13, 14, 15}
	for _, c := range []struct {
		name string
		r    impl.LogRecord
		want int64
	}{
		{"8 transactions", txn(1, 2, 3, 4, 5, 6, 7, 8), 0},
		{"9 transactions", txn(1, 2, 3, 4, 5, 6, 7, 8, 9), 8},
		{"256 transactions", txn(risen(rand.New(rand.NewSource(3)), 256, greatestTxn)...), 8},
		{"equal transactions", txn(4, 4), 8},
		{"equal transactions, at the end", txn(1, 2, 4, 4), 8},
		{"falling transactions", txn(5, 4), 8},
		{"falling transactions, at the end", txn(1, 9, 4), 8},
		{"rising transactions", txn(4, 5), 0},
		{"the least and the greatest", txn(1, greatestTxn), 0},
		{"a transaction 0 behind", txn(1, 0), 8},
		{"a transaction too great behind", txn(1, greatestTxn+1), 8},
		{"16 pages", dirty(all...), 0},
		{"17 pages", dirty(append(all, 16)...), 8},
		{"17 pages, two equal", dirty(append(all, 15)...), 8},
		{"equal pages", dirty(0, 0), 8},
		{"equal pages, at the end", dirty(1, 3, 3), 8},
		{"falling pages", dirty(1, 0), 8},
		{"falling pages, at the end", dirty(0, 9, 4), 8},
		{"rising pages", dirty(4, 5), 0},
		{"a page 16 behind", dirty(4, 16), 8},
		{"a page -1", dirty(-1, 4), 8},
	} {
		if c.want != 0 {
			refused(t, c.name, c.r, c.want)
		} else if got := impl.RecordFault(c.r); got != 0 {
			t.Error(c.name, "have the fault", got)
		}
	}
}

func TestRecordFaultOfUndoNextAndLast(t *testing.T) {
	for _, c := range []struct{ last, undoNext, want int64 }{
		{1, 0, 0}, {1, 1, 0}, {1, 2, 8}, {0, 0, 8}, {600, 600, 0}, {600, 601, 8}, {600, 599, 0}, {600, -1, 8},
		{greatestLSN, greatestLSN, 0}, {greatestLSN, greatestLSN + 1, 8}, {greatestLSN + 1, greatestLSN + 1, 8}, {-1, -1, 8}, {-1, 0, 8},
	} {
		r := impl.LogRecord{Kind: 7, NextTxn: 1, Txns: []impl.TxnEntry{{Txn: 1, State: 2, Last: c.last, UndoNext: c.undoNext}}}
		if got := impl.RecordFault(r); got != c.want || plainRecordFault(r) != c.want {
			t.Error("Last", c.last, "with UndoNext", c.undoNext, "has the fault", got)
		}
	}
}

// recordBreaks give a record of the kind the fault of this number.
func recordBreaks(kind int64) map[int64][]func(r *impl.LogRecord) {
	type change = func(r *impl.LogRecord)
	breaks := map[int64][]change{1: {func(r *impl.LogRecord) { r.Kind = 9 }, func(r *impl.LogRecord) { r.Kind = 0 }}}
	for field, values := range fieldValues() {
		if !slices.Contains(fieldsOf(kind), field) {
			breaks[2] = append(breaks[2], values[0])
		}
	}
	if kind <= 5 {
		breaks[3] = []change{func(r *impl.LogRecord) { r.Txn = 0 }, func(r *impl.LogRecord) { r.Txn = greatestTxn + 1 }}
		breaks[4] = []change{func(r *impl.LogRecord) { r.Prev = -1 }, func(r *impl.LogRecord) { r.Prev = greatestLSN + 1 }}
	}
	if kind <= 2 {
		breaks[5] = []change{func(r *impl.LogRecord) { r.Page = 16 }, func(r *impl.LogRecord) { r.Slot = 32 }}
		breaks[6] = []change{func(r *impl.LogRecord) { r.After = longRecord(1001, 1) }, func(r *impl.LogRecord) { r.After.Used = false }}
	}
	switch kind {
	case 1:
		breaks[6] = append(breaks[6], func(r *impl.LogRecord) { r.Before, r.After = impl.PageRecord{}, impl.PageRecord{} })
	case 2:
		breaks[7] = []change{func(r *impl.LogRecord) { r.UndoNext = -1 }, func(r *impl.LogRecord) { r.UndoNext = greatestLSN + 1 }}
	case 7:
		breaks[8] = []change{func(r *impl.LogRecord) { r.NextTxn = 0 }, func(r *impl.LogRecord) { r.Txns[0].State = 4 }, func(r *impl.LogRecord) { r.Dirty[0].Page = 16 }}
	case 8:
		breaks[5] = []change{func(r *impl.LogRecord) { r.Page = 16 }}
		breaks[9] = []change{func(r *impl.LogRecord) { r.Image = r.Image[1:] }, func(r *impl.LogRecord) { r.Image[zerosPlace] = 1 }}
	}
	return breaks
}

// TestRecordFaultsTheFirst breaks a record in one way, and in two.
func TestRecordFaultsTheFirst(t *testing.T) {
	alone := map[int64]bool{}
	for kind := int64(1); kind <= 8; kind++ {
		breaks := recordBreaks(kind)
		for i, firsts := range breaks {
			alone[i] = true
			for _, first := range firsts {
				one := logOf(kind)
				first(&one)
				refused(t, "one fault", one, i)
				for j, seconds := range breaks {
					for _, second := range seconds {
						if i == j {
							continue
						}
						two := logOf(kind)
						first(&two)
						second(&two)
						refused(t, "two faults", two, min(i, j))
					}
				}
			}
		}
	}
	if len(alone) != 9 {
		t.Error("the faults alone are", alone)
	}
}

// TestRecordFaultOfAnyRecords turns one or two fields of a good record to numbers at the bounds.
func TestRecordFaultOfAnyRecords(t *testing.T) {
	r := rand.New(rand.NewSource(41))
	edges := []int64{-1, 0, 1, 2, 3, 4, 8, 9, 15, 16, 31, 32, 600, 700, 800, greatestTxn, greatestTxn + 1, greatestTxn + 2, greatestLSN, greatestLSN + 1, math.MaxInt64, math.MinInt64}
	seen := map[int64]int{}
	for range 50000 {
		l := anyLog(r)
		for range r.Intn(3) {
			anyChange(r, &l, edges[r.Intn(len(edges))])
		}
		want := plainRecordFault(l)
		seen[want]++
		if got := impl.RecordFault(l); got != want {
			t.Fatalf("%+v has the fault %d, not %d", l, got, want)
		}
		if encoded := impl.EncodeRecord(l); (len(encoded) == 0) != (want != 0) || want == 0 && string(encoded) != string(plainEncode(l)) {
			t.Fatalf("%+v is encoded as %x", l, encoded)
		}
	}
	for code := range int64(10) {
		if seen[code] < 20 {
			t.Error("the fault", code, "was seen", seen[code], "times")
		}
	}
}

func anyChange(r *rand.Rand, l *impl.LogRecord, v int64) {
	numbers := []*int64{&l.Txn, &l.Prev, &l.Page, &l.Slot, &l.UndoNext, &l.NextTxn, &l.Kind}
	if len(l.Txns) > 0 {
		e := &l.Txns[r.Intn(len(l.Txns))]
		numbers = append(numbers, &e.Txn, &e.State, &e.Last, &e.UndoNext)
	}
	if len(l.Dirty) > 0 {
		e := &l.Dirty[r.Intn(len(l.Dirty))]
		numbers = append(numbers, &e.Page, &e.RecLSN)
	}
	switch n := r.Intn(len(numbers) + 5); n {
	case 0:
		l.Before.Used = !l.Before.Used
	case 1:
		l.After.Used = !l.After.Used
	case 2:
		l.Before = impl.PageRecord{Used: r.Intn(2) == 0, Data: make([]byte, 999+r.Intn(3))}
	case 3:
		l.After = impl.PageRecord{Used: r.Intn(2) == 0, Data: make([]byte, 999+r.Intn(3))}
	case 4:
		if len(l.Image) > 0 {
			l.Image[zerosPlace] = byte(r.Intn(2))
		}
	default:
		*numbers[n-5] = v
	}
}
