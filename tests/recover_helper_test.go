package tests

import (
	"bytes"
	"cmp"
	"math/rand"
	"slices"

	"loop.example/s02544/impl"
)

const mostTxns = 8

func at(lsn int64, r impl.LogRecord) impl.LogFrame {
	return impl.LogFrame{LSN: lsn, Epoch: 1, Record: r}
}

// updateBy has no record ahead of it; a delete is one of a record "gone".
func updateBy(txn, prev, page, slot int64, after impl.PageRecord) impl.LogRecord {
	r := impl.LogRecord{Kind: 1, Txn: txn, Prev: prev, Page: page, Slot: slot, After: after}
	if !after.Used {
		r.Before = recordOf("gone")
	}
	return r
}

func undoBy(txn, prev, undoNext, page, slot int64, after impl.PageRecord) impl.LogRecord {
	return impl.LogRecord{Kind: 2, Txn: txn, Prev: prev, Page: page, Slot: slot, After: after, UndoNext: undoNext}
}

func commitBy(txn, prev int64) impl.LogRecord { return impl.LogRecord{Kind: 3, Txn: txn, Prev: prev} }
func abortBy(txn, prev int64) impl.LogRecord  { return impl.LogRecord{Kind: 4, Txn: txn, Prev: prev} }
func endBy(txn, prev int64) impl.LogRecord    { return impl.LogRecord{Kind: 5, Txn: txn, Prev: prev} }
func beginning() impl.LogRecord               { return impl.LogRecord{Kind: 6} }

func tablesOf(next int64, txns []impl.TxnEntry, pages ...impl.DirtyEntry) impl.LogRecord {
	return impl.LogRecord{Kind: 7, NextTxn: next, Txns: txns, Dirty: pages}
}

// entriesOf takes transaction, state, last and next to undo of each.
func entriesOf(numbers ...int64) []impl.TxnEntry {
	var list []impl.TxnEntry
	for n := range slices.Chunk(numbers, 4) {
		list = append(list, impl.TxnEntry{Txn: n[0], State: n[1], Last: n[2], UndoNext: n[3]})
	}
	return list
}

// pagesOf takes page and first change of each.
func pagesOf(numbers ...int64) []impl.DirtyEntry {
	var list []impl.DirtyEntry
	for n := range slices.Chunk(numbers, 2) {
		list = append(list, impl.DirtyEntry{Page: n[0], RecLSN: n[1]})
	}
	return list
}

func imageOf(page []byte) impl.LogRecord {
	return impl.LogRecord{Kind: 8, Page: ownOf(page), Image: page}
}

// behindCheckpoint has a checkpoint without entries at 512 and the frames at 600, 700 and so on.
func behindCheckpoint(records ...impl.LogRecord) impl.Scan {
	frames := []impl.LogFrame{at(512, beginning()), at(545, tablesOf(1, nil))}
	for i, r := range records {
		frames = append(frames, at(600+100*int64(i), r))
	}
	return impl.Scan{Frames: frames, End: 600 + 100*int64(len(records))}
}

func sameAnalysis(a, b impl.Analysis) bool {
	return a.Code == b.Code && a.Frames == b.Frames && a.End == b.End && a.NextTxn == b.NextTxn &&
		slices.Equal(a.Txns, b.Txns) && slices.Equal(a.Dirty, b.Dirty) && slices.Equal(a.Imaged, b.Imaged)
}

func samePage(a, b impl.PageResult) bool {
	return a.Code == b.Code && bytes.Equal(a.Page, b.Page)
}

func samePlan(a, b impl.UndoPlan) bool {
	return a.Code == b.Code && slices.Equal(a.Steps, b.Steps)
}

func copyFrames(list []impl.LogFrame) []impl.LogFrame {
	c := slices.Clone(list)
	for i, f := range c {
		c[i].Record = copyLog(f.Record)
	}
	return c
}

func plainRising(frames []impl.LogFrame) bool {
	for i, f := range frames {
		for _, ahead := range frames[:i] {
			if ahead.LSN >= f.LSN {
				return false
			}
		}
	}
	return true
}

// plainAnalyze keeps its entries and pages in lists, in the order in which they came.
func plainAnalyze(s impl.Scan, ckpt int64) impl.Analysis {
	begin := -1
	for i := 0; i+1 < len(s.Frames); i++ {
		if s.Frames[i].LSN == ckpt && s.Frames[i].Record.Kind == 6 && s.Frames[i+1].Record.Kind == 7 {
			begin = i
		}
	}
	if begin < 0 {
		return impl.Analysis{Code: 1}
	}
	for _, f := range s.Frames {
		if !within(f.LSN, 512, greatestLSN) || plainRecordFault(f.Record) != 0 {
			return impl.Analysis{Code: 2}
		}
	}
	if !plainRising(s.Frames) {
		return impl.Analysis{Code: 2}
	}
	a := impl.Analysis{Frames: int64(len(s.Frames)), End: s.End}
	for a.Frames > int64(begin)+2 && within(s.Frames[a.Frames-1].Record.Kind, 6, 7) {
		a.Frames--
		a.End = s.Frames[a.Frames].LSN
	}
	tables := s.Frames[begin+1].Record
	a.NextTxn, a.Txns, a.Dirty = tables.NextTxn, slices.Clone(tables.Txns), slices.Clone(tables.Dirty)
	for _, f := range s.Frames[begin+2 : a.Frames] {
		if !plainTakes(&a, f) || len(a.Txns) > mostTxns {
			return impl.Analysis{Code: 2}
		}
	}
	slices.SortFunc(a.Txns, func(x, y impl.TxnEntry) int { return cmp.Compare(x.Txn, y.Txn) })
	slices.SortFunc(a.Dirty, func(x, y impl.DirtyEntry) int { return cmp.Compare(x.Page, y.Page) })
	slices.Sort(a.Imaged)
	return a
}

func plainTakes(a *impl.Analysis, f impl.LogFrame) bool {
	r := f.Record
	if r.Kind == 8 && !slices.Contains(a.Imaged, r.Page) {
		a.Imaged = append(a.Imaged, r.Page)
	}
	if r.Kind > 5 {
		return true
	}
	if r.Kind <= 2 && !slices.ContainsFunc(a.Dirty, func(e impl.DirtyEntry) bool { return e.Page == r.Page }) {
		a.Dirty = append(a.Dirty, impl.DirtyEntry{Page: r.Page, RecLSN: f.LSN})
	}
	i := slices.IndexFunc(a.Txns, func(e impl.TxnEntry) bool { return e.Txn == r.Txn })
	if i < 0 && r.Kind > 2 {
		return false
	}
	if i < 0 {
		i = len(a.Txns)
		a.Txns = append(a.Txns, impl.TxnEntry{Txn: r.Txn, State: 1})
	}
	e := &a.Txns[i]
	if e.Last != r.Prev || r.Kind == 2 && r.UndoNext >= f.LSN {
		return false
	}
	e.Last = f.LSN
	a.NextTxn = max(a.NextTxn, r.Txn+1)
	switch r.Kind {
	case 1:
		e.UndoNext = f.LSN
	case 2:
		e.UndoNext = r.UndoNext
	case 3:
		e.State = 2
	case 4:
		e.State = 3
	case 5:
		a.Txns = slices.Delete(a.Txns, i, i+1)
	}
	return true
}

func plainLastImage(frames []impl.LogFrame, page int64) impl.PageResult {
	result := impl.PageResult{Code: 1}
	for _, f := range frames {
		if f.Record.Kind == 8 && f.Record.Page == page {
			result = impl.PageResult{Page: f.Record.Image}
		}
	}
	return result
}

func plainRedo(page []byte, number int64, frames []impl.LogFrame, from int64) impl.PageResult {
	if plainFault(page, number) != 0 {
		return impl.PageResult{Code: 1}
	}
	for _, f := range frames {
		r := f.Record
		if r.Kind != 1 && r.Kind != 2 || r.Page != number || f.LSN < from || f.LSN <= int64(lsnOf(page)) {
			continue
		}
		if plainCode(page, r.Slot, r.After, f.LSN) != 0 {
			return impl.PageResult{Code: 2}
		}
		page = plainSet(page, int(r.Slot), r.After, f.LSN)
	}
	return impl.PageResult{Page: page}
}

// plainPlan leaves an entry that is gone in its place, with the UndoNext 0.
func plainPlan(frames []impl.LogFrame, txns []impl.TxnEntry) impl.UndoPlan {
	if !plainRising(frames) || len(txns) > mostTxns {
		return impl.UndoPlan{Code: 2}
	}
	for i, e := range txns {
		if e.UndoNext < 0 || i > 0 && txns[i-1].Txn >= e.Txn {
			return impl.UndoPlan{Code: 2}
		}
	}
	var plan impl.UndoPlan
	next := map[int64]int64{}
	for _, e := range txns {
		if e.State == 2 || e.UndoNext == 0 {
			plan.Steps = append(plan.Steps, impl.UndoStep{Kind: 5, Txn: e.Txn})
		} else {
			next[e.Txn] = e.UndoNext
		}
	}
	for len(next) > 0 {
		txn, lsn := plainGreatest(next)
		i := slices.IndexFunc(frames, func(f impl.LogFrame) bool { return f.LSN == lsn })
		if i < 0 || !within(frames[i].Record.Kind, 1, 2) || frames[i].Record.Txn != txn {
			return impl.UndoPlan{Code: 1}
		}
		next[txn] = frames[i].Record.UndoNext
		if frames[i].Record.Kind == 1 {
			plan.Steps = append(plan.Steps, impl.UndoStep{Kind: 2, Txn: txn, LSN: lsn})
			next[txn] = frames[i].Record.Prev
		}
		if next[txn] >= lsn {
			return impl.UndoPlan{Code: 1}
		}
		if next[txn] == 0 {
			plan.Steps = append(plan.Steps, impl.UndoStep{Kind: 5, Txn: txn})
			delete(next, txn)
		}
	}
	return plan
}

// plainGreatest is the transaction with the greatest place; of equal ones the least.
func plainGreatest(next map[int64]int64) (int64, int64) {
	txn, lsn := int64(0), int64(0)
	first := true
	for t, l := range next {
		if first || l > lsn || l == lsn && t < txn {
			txn, lsn, first = t, l, false
		}
	}
	return txn, lsn
}

// told is what a story knows of a transaction that has not ended.
type told struct {
	state  int64
	last   int64
	undone []bool
	update []impl.LogFrame
}

// story is a log that is written on and on, by several transactions side by side,
// with the pages as they would be.
type story struct {
	r     *rand.Rand
	scan  impl.Scan
	next  int64
	open  map[int64]*told
	pages [][]byte
}

func newStory(r *rand.Rand, pages int) *story {
	s := &story{r: r, scan: impl.Scan{End: 512}, next: 1, open: map[int64]*told{}}
	for i := range pages {
		s.pages = append(s.pages, impl.PageNew(int64(i)))
	}
	s.log(beginning())
	s.log(tablesOf(1, nil))
	return s
}

func (s *story) log(r impl.LogRecord) int64 {
	lsn := s.scan.End
	s.scan.Frames = append(s.scan.Frames, at(lsn, copyLog(r)))
	s.scan.End += impl.FrameSize(r)
	return lsn
}

// change logs an Update or Undo and does it, if there is room for it.
func (s *story) change(r impl.LogRecord) (impl.LogFrame, bool) {
	page := s.pages[r.Page]
	if plainCode(page, r.Slot, r.After, s.scan.End) != 0 {
		return impl.LogFrame{}, false
	}
	s.pages[r.Page] = plainSet(page, int(r.Slot), r.After, s.scan.End)
	return at(s.log(r), r), true
}

func (s *story) doUpdate(txn int64) {
	page, slot := s.r.Intn(len(s.pages)), s.r.Intn(32)
	r := impl.LogRecord{Kind: 1, Txn: txn, Page: int64(page), Slot: int64(slot)}
	if slotOf(s.pages[page], slot).offset != 0 {
		r.Before = impl.PageRecord{Used: true, Data: plainRecord(s.pages[page], slot)}
	}
	if !r.Before.Used || s.r.Intn(3) > 0 {
		r.After = impl.PageRecord{Used: true, Data: someBytes(s.r, anyLength(s.r))}
	}
	t := s.open[txn]
	if t == nil {
		t = &told{state: 1}
	}
	r.Prev = t.last
	if f, ok := s.change(r); ok {
		t.last, t.update, t.undone = f.LSN, append(t.update, f), append(t.undone, false)
		s.open[txn], s.next = t, max(s.next, txn+1)
	}
}

// doUndo undoes the last Update of the transaction that is not undone.
func (s *story) doUndo(txn int64) {
	t := s.open[txn]
	for i, f := range slices.Backward(t.update) {
		if t.undone[i] {
			continue
		}
		r := undoBy(txn, t.last, f.Record.Prev, f.Record.Page, f.Record.Slot, f.Record.Before)
		if f, ok := s.change(r); ok {
			t.last, t.undone[i] = f.LSN, true
		}
		return
	}
}

func (s *story) doState(txn int64, kind int64, state int64) {
	t := s.open[txn]
	t.last = s.log(impl.LogRecord{Kind: kind, Txn: txn, Prev: t.last})
	t.state = state
}

func (s *story) doEnd(txn int64) {
	s.log(endBy(txn, s.open[txn].last))
	delete(s.open, txn)
}

// some is a transaction that has not ended; 0, if there is none.
func (s *story) some() int64 {
	txns := s.txns()
	if len(txns) == 0 {
		return 0
	}
	return txns[s.r.Intn(len(txns))]
}

func (s *story) txns() []int64 {
	var list []int64
	for txn := range s.open {
		list = append(list, txn)
	}
	slices.Sort(list)
	return list
}

// goOn does something that an engine might do, and something that it would not, but the chapter allows.
func (s *story) goOn() {
	txn := s.some()
	if len(s.open) < mostTxns && s.r.Intn(3) == 0 || txn == 0 {
		s.doUpdate(s.next)
		return
	}
	t := s.open[txn]
	switch k := s.r.Intn(20); {
	case k == 0:
		page := s.r.Intn(len(s.pages))
		s.log(imageOf(s.pages[page]))
	case k == 1:
		s.log(beginning())
	case t.state == 2:
		s.doEnd(txn)
	case t.state == 3 && !slices.Contains(t.undone, false):
		s.doEnd(txn)
	case t.state == 3, k == 2:
		s.doUndo(txn)
	case k == 3:
		s.doState(txn, 3, 2)
	case k == 4:
		s.doState(txn, 4, 3)
	default:
		s.doUpdate(txn)
	}
}

// toUndo are the Updates that are left to undo, from the last one to the first.
func (s *story) toUndo() []impl.UndoStep {
	var list []impl.UndoStep
	for txn, t := range s.open {
		for i, f := range t.update {
			if t.state != 2 && !t.undone[i] {
				list = append(list, impl.UndoStep{Kind: 2, Txn: txn, LSN: f.LSN})
			}
		}
	}
	slices.SortFunc(list, func(a, b impl.UndoStep) int { return cmp.Compare(b.LSN, a.LSN) })
	return list
}

func anyStory(r *rand.Rand, pages, length int) *story {
	s := newStory(r, pages)
	for range length {
		s.goOn()
	}
	return s
}

// allRecords are the records of a well-formed page, by slot.
func allRecords(page []byte) [32]string {
	var list [32]string
	for i := range list {
		if slotOf(page, i).offset != 0 {
			list[i] = "record " + string(plainRecord(page, i))
		}
	}
	return list
}
