package tests

import (
	"bytes"
	"encoding/binary"
	"math/rand"
	"slices"

	"loop.example/s02544/impl"
)

const greatestTxn = 2147483647

// fieldsOf are the fields that a kind has, by the document's table.
func fieldsOf(kind int64) []string {
	return [][]string{
		1: {"Txn", "Prev", "Page", "Slot", "Before", "After"},
		2: {"Txn", "Prev", "Page", "Slot", "After", "UndoNext"},
		3: {"Txn", "Prev"},
		4: {"Txn", "Prev"},
		5: {"Txn", "Prev"},
		6: {},
		7: {"NextTxn", "Txns", "Dirty"},
		8: {"Page", "Image"},
	}[kind]
}

// setFields are the fields of a record that are not zero.
func setFields(r impl.LogRecord) []string {
	set := map[string]bool{
		"Txn":      r.Txn != 0,
		"Prev":     r.Prev != 0,
		"Page":     r.Page != 0,
		"Slot":     r.Slot != 0,
		"Before":   r.Before.Used || len(r.Before.Data) > 0,
		"After":    r.After.Used || len(r.After.Data) > 0,
		"UndoNext": r.UndoNext != 0,
		"NextTxn":  r.NextTxn != 0,
		"Txns":     len(r.Txns) > 0,
		"Dirty":    len(r.Dirty) > 0,
		"Image":    len(r.Image) > 0,
	}
	var names []string
	for name, is := range set {
		if is {
			names = append(names, name)
		}
	}
	return names
}

func within(v, least, most int64) bool { return least <= v && v <= most }

func badSlot(r impl.PageRecord) bool { return len(r.Data) > 1000 || !r.Used && len(r.Data) > 0 }

// plainRecordFault asks the document's questions in their order, of all kinds alike.
func plainRecordFault(r impl.LogRecord) int64 {
	if !within(r.Kind, 1, 8) {
		return 1
	}
	has := fieldsOf(r.Kind)
	for _, name := range setFields(r) {
		if !slices.Contains(has, name) {
			return 2
		}
	}
	switch {
	case r.Kind <= 5 && !within(r.Txn, 1, greatestTxn):
		return 3
	case !within(r.Prev, 0, greatestLSN):
		return 4
	case !within(r.Page, 0, 15) || !within(r.Slot, 0, 31):
		return 5
	case badSlot(r.Before) || badSlot(r.After) || r.Kind == 1 && !r.Before.Used && !r.After.Used:
		return 6
	case !within(r.UndoNext, 0, greatestLSN):
		return 7
	case r.Kind == 7 && plainTablesFault(r):
		return 8
	case r.Kind == 8 && plainFault(r.Image, r.Page) != 0:
		return 9
	}
	return 0
}

func plainTablesFault(r impl.LogRecord) bool {
	if !within(r.NextTxn, 1, greatestTxn+1) || len(r.Txns) > 8 || len(r.Dirty) > 16 {
		return true
	}
	for i, e := range r.Txns {
		if i > 0 && r.Txns[i-1].Txn >= e.Txn {
			return true
		}
		if !within(e.Txn, 1, greatestTxn) || !within(e.State, 1, 3) || !within(e.Last, 1, greatestLSN) || !within(e.UndoNext, 0, e.Last) {
			return true
		}
	}
	for i, e := range r.Dirty {
		if i > 0 && r.Dirty[i-1].Page >= e.Page || !within(e.Page, 0, 15) || !within(e.RecLSN, 1, greatestLSN) {
			return true
		}
	}
	return false
}

func put2(b []byte, v int64) []byte { return binary.BigEndian.AppendUint16(b, uint16(v)) }
func put4(b []byte, v int64) []byte { return binary.BigEndian.AppendUint32(b, uint32(v)) }
func put8(b []byte, v int64) []byte { return binary.BigEndian.AppendUint64(b, uint64(v)) }

// plainEncode cuts numbers to their bytes, so that faulty records are laid too.
func plainEncode(r impl.LogRecord) []byte {
	b := put8(put4([]byte{byte(r.Kind)}, r.Txn), r.Prev)
	switch r.Kind {
	case 1:
		b = put2(put2(b, r.Page), r.Slot)
		b = plainSlot(plainSlot(b, r.Before), r.After)
	case 2:
		b = put2(put2(b, r.Page), r.Slot)
		b = put8(plainSlot(b, r.After), r.UndoNext)
	case 7:
		b = append(put4(b, r.NextTxn), byte(len(r.Txns)))
		for _, e := range r.Txns {
			b = append(put4(b, e.Txn), byte(e.State))
			b = put8(put8(b, e.Last), e.UndoNext)
		}
		b = append(b, byte(len(r.Dirty)))
		for _, e := range r.Dirty {
			b = put8(put2(b, e.Page), e.RecLSN)
		}
	case 8:
		b = append(put2(b, r.Page), r.Image...)
	}
	return b
}

func plainSlot(b []byte, r impl.PageRecord) []byte {
	if !r.Used {
		return append(b, 0)
	}
	return append(put2(append(b, 1), int64(len(r.Data))), r.Data...)
}

// plainFrame lays a frame around any bytes, with its right length and sum.
func plainFrame(lsn uint64, epoch uint32, record []byte) []byte {
	return toldFrame(uint32(20+len(record)), lsn, epoch, record)
}

// toldFrame tells a length of its own; the sum is that of so many bytes as are told, where there are so many.
func toldFrame(told uint32, lsn uint64, epoch uint32, record []byte) []byte {
	summed := binary.BigEndian.AppendUint32(binary.BigEndian.AppendUint64(nil, lsn), epoch)
	summed = append(summed, record...)
	part := summed
	if told >= 8 && int(told)-8 <= len(summed) {
		part = summed[:told-8]
	}
	b := put4(put4(nil, int64(told)), plainSum(part))
	return append(b, summed...)
}

func sameLog(a, b impl.LogRecord) bool {
	return a.Kind == b.Kind && a.Txn == b.Txn && a.Prev == b.Prev && a.Page == b.Page && a.Slot == b.Slot &&
		sameRecord(a.Before, b.Before) && sameRecord(a.After, b.After) && a.UndoNext == b.UndoNext && a.NextTxn == b.NextTxn &&
		slices.Equal(a.Txns, b.Txns) && slices.Equal(a.Dirty, b.Dirty) && bytes.Equal(a.Image, b.Image)
}

func isZeroLog(r impl.LogRecord) bool { return sameLog(r, impl.LogRecord{}) }

func copyLog(r impl.LogRecord) impl.LogRecord {
	r.Before.Data = append([]byte(nil), r.Before.Data...)
	r.After.Data = append([]byte(nil), r.After.Data...)
	r.Txns = append([]impl.TxnEntry(nil), r.Txns...)
	r.Dirty = append([]impl.DirtyEntry(nil), r.Dirty...)
	r.Image = append([]byte(nil), r.Image...)
	return r
}

type namedLog struct {
	name   string
	record impl.LogRecord
}

// plainLogs has a record without fault of each kind, in which each field that it has is set.
func plainLogs() []namedLog {
	return []namedLog{
		{"Update", impl.LogRecord{Kind: 1, Txn: 7, Prev: 600, Page: 2, Slot: 5, Before: recordOf("old"), After: recordOf("newer")}},
		{"Undo", impl.LogRecord{Kind: 2, Txn: 7, Prev: 700, Page: 2, Slot: 5, After: recordOf("old"), UndoNext: 600}},
		{"Commit", impl.LogRecord{Kind: 3, Txn: 7, Prev: 600}},
		{"Abort", impl.LogRecord{Kind: 4, Txn: 7, Prev: 600}},
		{"End", impl.LogRecord{Kind: 5, Txn: 7, Prev: 600}},
		{"Begin", impl.LogRecord{Kind: 6}},
		{"Tables", impl.LogRecord{Kind: 7, NextTxn: 9,
			Txns:  []impl.TxnEntry{{Txn: 3, State: 1, Last: 700, UndoNext: 650}, {Txn: 8, State: 3, Last: 800}},
			Dirty: []impl.DirtyEntry{{Page: 1, RecLSN: 640}, {Page: 4, RecLSN: 520}, {Page: 15, RecLSN: 1}}}},
		{"Image", impl.LogRecord{Kind: 8, Page: 3, Image: impl.PageSet(impl.PageNew(3), 4, recordOf("kept"), 555).Page}},
	}
}

// fullTables has as many entries as there may be, with the greatest numbers.
func fullTables() impl.LogRecord {
	r := impl.LogRecord{Kind: 7, NextTxn: greatestTxn + 1}
	for i := range int64(8) {
		r.Txns = append(r.Txns, impl.TxnEntry{Txn: greatestTxn - 7 + i, State: 1 + i%3, Last: greatestLSN, UndoNext: greatestLSN - i})
	}
	for i := range int64(16) {
		r.Dirty = append(r.Dirty, impl.DirtyEntry{Page: i, RecLSN: greatestLSN - i})
	}
	return r
}

// goodLogs are records without fault, with the edges that the document names.
func goodLogs() []namedLog {
	none, empty, long := impl.PageRecord{}, impl.PageRecord{Used: true}, longRecord(1000, 6)
	laid := impl.LogRecord{Kind: 8, Image: laidPage(0, greatestLSN, 148, slotEntry{0, 148, 1000}, slotEntry{9, 4096, 0})}
	return append(plainLogs(),
		namedLog{"an insert", impl.LogRecord{Kind: 1, Txn: 1, After: recordOf("a")}},
		namedLog{"an insert of no bytes", impl.LogRecord{Kind: 1, Txn: 1, After: empty}},
		namedLog{"a delete", impl.LogRecord{Kind: 1, Txn: greatestTxn, Prev: greatestLSN, Page: 15, Slot: 31, Before: recordOf("a")}},
		namedLog{"a delete of no bytes", impl.LogRecord{Kind: 1, Txn: 1, Before: empty}},
		namedLog{"a change of no bytes to none", impl.LogRecord{Kind: 1, Txn: 1, Before: empty, After: empty}},
		namedLog{"the longest Update", impl.LogRecord{Kind: 1, Txn: 1, Prev: 1, Before: long, After: longRecord(1000, 7)}},
		namedLog{"an Undo of an insert", impl.LogRecord{Kind: 2, Txn: greatestTxn, After: none}},
		namedLog{"the longest Undo", impl.LogRecord{Kind: 2, Txn: 1, Prev: greatestLSN, Page: 15, Slot: 31, After: long, UndoNext: greatestLSN}},
		namedLog{"an Undo to no bytes", impl.LogRecord{Kind: 2, Txn: 1, After: empty}},
		namedLog{"the last Commit", impl.LogRecord{Kind: 3, Txn: greatestTxn, Prev: greatestLSN}},
		namedLog{"the first Abort", impl.LogRecord{Kind: 4, Txn: 1}},
		namedLog{"the first End", impl.LogRecord{Kind: 5, Txn: 1}},
		namedLog{"empty Tables", impl.LogRecord{Kind: 7, NextTxn: 1}},
		namedLog{"Tables without transactions", impl.LogRecord{Kind: 7, NextTxn: 1, Dirty: []impl.DirtyEntry{{Page: 0, RecLSN: greatestLSN}}}},
		namedLog{"Tables without pages", impl.LogRecord{Kind: 7, NextTxn: 2, Txns: []impl.TxnEntry{{Txn: greatestTxn, State: 2, Last: 1, UndoNext: 1}}}},
		namedLog{"full Tables", fullTables()},
		namedLog{"the Image of a new page", impl.LogRecord{Kind: 8, Page: 15, Image: impl.PageNew(15)}},
		namedLog{"the Image of a page that is not sealed", laid},
	)
}

// anyLog is a record without fault.
func anyLog(r *rand.Rand) impl.LogRecord {
	l := impl.LogRecord{Kind: 1 + r.Int63n(8)}
	if l.Kind <= 5 {
		l.Txn, l.Prev = 1+r.Int63n(greatestTxn), r.Int63n(greatestLSN+1)
	}
	switch l.Kind {
	case 1, 2:
		l.Page, l.Slot = r.Int63n(16), r.Int63n(32)
		l.After = impl.PageRecord{Used: true, Data: someBytes(r, anyLength(r))}
		if l.Kind == 2 {
			l.UndoNext = r.Int63n(greatestLSN + 1)
		} else if r.Intn(3) > 0 {
			l.Before = impl.PageRecord{Used: true, Data: someBytes(r, anyLength(r))}
		}
		if (l.Kind == 2 || l.Before.Used) && r.Intn(3) == 0 {
			l.After = impl.PageRecord{}
		}
	case 7:
		l.NextTxn = 1 + r.Int63n(greatestTxn+1)
		for _, txn := range risen(r, r.Intn(9), greatestTxn) {
			last := 1 + r.Int63n(greatestLSN)
			l.Txns = append(l.Txns, impl.TxnEntry{Txn: txn + 1, State: 1 + r.Int63n(3), Last: last, UndoNext: r.Int63n(last + 1)})
		}
		for _, page := range risen(r, r.Intn(17), 16) {
			l.Dirty = append(l.Dirty, impl.DirtyEntry{Page: page, RecLSN: 1 + r.Int63n(greatestLSN)})
		}
	case 8:
		l.Image = anyPage(r)
		l.Page = ownOf(l.Image)
	}
	return l
}

// risen has n numbers below most that rise.
func risen(r *rand.Rand, n int, most int64) []int64 {
	var list []int64
	for len(list) < n {
		if v := r.Int63n(most); !slices.Contains(list, v) {
			list = append(list, v)
		}
	}
	slices.Sort(list)
	return list
}
