package tests

import (
	"bytes"
	"maps"
	"math/rand"
	"slices"

	"loop.example/s02544/impl"
)

// The codes of chapter 12, written out.
const (
	codeDown     = 1
	codeTxn      = 2
	codeBig      = 3
	codeId       = 4
	codeConflict = 5
	codeAbsent   = 6
	codeSpace    = 7
	codeLog      = 8
	codeTxns     = 9
	codeCorrupt  = 10
	codeUp       = 11
)

const (
	imageFrame   = 4131
	endFrame     = 33
	keptLog      = 8192
	mostSteps    = 400
	mostStepData = 100000
)

func begins() impl.Step { return impl.Step{Kind: 1} }
func inserts(txn int64, data string) impl.Step {
	return impl.Step{Kind: 2, Txn: txn, Data: []byte(data)}
}
func deletes(txn, id int64) impl.Step { return impl.Step{Kind: 4, Txn: txn, Id: id} }
func reads(txn, id int64) impl.Step   { return impl.Step{Kind: 5, Txn: txn, Id: id} }
func commits(txn int64) impl.Step     { return impl.Step{Kind: 6, Txn: txn} }
func aborts(txn int64) impl.Step      { return impl.Step{Kind: 7, Txn: txn} }
func checkpoints() impl.Step          { return impl.Step{Kind: 8} }
func restarts() impl.Step             { return impl.Step{Kind: 9} }
func crashes(keep ...int64) impl.Step { return impl.Step{Kind: 10, Keep: keep} }
func cuts(count int64) impl.Step      { return impl.Step{Kind: 11, Count: count} }
func updates(txn, id int64, data string) impl.Step {
	return impl.Step{Kind: 3, Txn: txn, Id: id, Data: []byte(data)}
}

// keepAll keeps each of so many pending writes.
func keepAll(n int) []int64 { return slices.Repeat([]int64{1}, n) }

func script(parts ...any) []impl.Step {
	var list []impl.Step
	for _, p := range parts {
		switch x := p.(type) {
		case impl.Step:
			list = append(list, x)
		case []impl.Step:
			list = append(list, x...)
		}
	}
	return list
}

func copySteps(list []impl.Step) []impl.Step {
	c := slices.Clone(list)
	for i, s := range c {
		c[i].Data, c[i].Keep = bytes.Clone(s.Data), slices.Clone(s.Keep)
	}
	return c
}

func sameSteps(a, b []impl.Step) bool {
	return slices.EqualFunc(a, b, func(x, y impl.Step) bool {
		return x.Kind == y.Kind && x.Txn == y.Txn && x.Id == y.Id && x.Count == y.Count && bytes.Equal(x.Data, y.Data) && slices.Equal(x.Keep, y.Keep)
	})
}

func sameAnswer(a, b impl.Answer) bool {
	return a.Code == b.Code && a.Txn == b.Txn && a.Id == b.Id && a.Used == b.Used && bytes.Equal(a.Data, b.Data) && sameRecords(a.Records, b.Records)
}

func sameReport(a, b impl.Report) bool {
	return a.Fault == b.Fault && slices.EqualFunc(a.Answers, b.Answers, sameAnswer) && sameDisk(a.Disk, b.Disk) && a.Up == b.Up &&
		slices.Equal(a.Locks, b.Locks) && slices.Equal(a.Holds, b.Holds) && slices.Equal(a.Room, b.Room) && a.Free == b.Free
}

func isZeroReport(r impl.Report, fault int64) bool { return sameReport(r, impl.Report{Fault: fault}) }

func codesOf(r impl.Report) []int64 {
	var list []int64
	for _, a := range r.Answers {
		list = append(list, a.Code)
	}
	return list
}

func lastOf(r impl.Report) impl.Answer { return r.Answers[len(r.Answers)-1] }

// plainStop is how the plain engine goes down, with a code.
type plainStop int64

type plainOpen struct {
	first, last int64
	updates     []impl.LogRecord
}

// plainEngine does chapter 12 word by word, on values of the chapters ahead of it.
// The power is what RunOps takes as its limit.
type plainEngine struct {
	g       impl.Geometry
	disk    impl.Disk
	left    int64
	used    int64
	up      bool
	pool    impl.Pool
	log     impl.Log
	master  impl.Master
	slot    int64
	locks   []impl.Lock
	holds   []impl.Hold
	lengths []int64
	imaged  [mostPages]bool
	next    int64
	open    map[int64]*plainOpen
	// What happened since it was made, for tests that ask for it.
	writtenBack, images, torn, evicted int
	why                                string
}

func newPlainEngine(g impl.Geometry, d impl.Disk) *plainEngine {
	return &plainEngine{g: g, disk: copyOf(d), left: -1}
}

func (e *plainEngine) corruptIf(why string, is bool) {
	if is {
		e.why = why
		panic(plainStop(codeCorrupt))
	}
}

func (e *plainEngine) ops(ops []impl.Op) {
	r := impl.RunOps(e.disk, ops, e.left)
	e.disk = r.Disk
	e.used += r.Used
	if e.left >= 0 {
		e.left -= r.Used
	}
	if !r.Done {
		e.left = -1
		panic(plainStop(codeDown))
	}
}

func (e *plainEngine) step(s impl.Step) (a impl.Answer) {
	e.used = 0
	defer func() {
		r := recover()
		stop, is := r.(plainStop)
		if r != nil && !is {
			panic(r)
		}
		if is {
			e.up = false
			a = impl.Answer{Code: int64(stop)}
		}
		a.Used = e.used
	}()
	switch {
	case s.Kind == 10:
		e.up = false
		e.disk = impl.DiskCrash(e.disk, s.Keep)
	case s.Kind == 11:
		e.left = s.Count
	case s.Kind == 9 && e.up:
		a.Code = codeUp
	case s.Kind == 9:
		a.Records = e.restart()
	case !e.up:
		a.Code = codeDown
	case s.Kind == 1:
		a = e.begin()
	case s.Kind == 8:
		a.Code = e.checkpoint(false)
	default:
		a = e.ofTxn(s)
	}
	return a
}

func (e *plainEngine) report(answers []impl.Answer) impl.Report {
	r := impl.Report{Answers: answers, Disk: e.disk, Up: e.up}
	if e.up {
		r.Locks, r.Holds, r.Free = e.locks, e.holds, e.free()
		for page := range e.g.Pages {
			r.Room = append(r.Room, impl.RoomLeft(e.lengths, e.holds, page))
		}
	}
	return r
}

func plainRun(g impl.Geometry, d impl.Disk, steps []impl.Step) impl.Report {
	e := newPlainEngine(g, d)
	var answers []impl.Answer
	for _, s := range steps {
		answers = append(answers, e.step(s))
	}
	return e.report(answers)
}

func (e *plainEngine) begin() impl.Answer {
	if len(e.open) == mostTxns || e.next > greatestTxn {
		return impl.Answer{Code: codeTxns}
	}
	e.open[e.next] = &plainOpen{}
	e.next++
	return impl.Answer{Txn: e.next - 1}
}

func (e *plainEngine) ofTxn(s impl.Step) impl.Answer {
	t := e.open[s.Txn]
	switch {
	case t == nil:
		return impl.Answer{Code: codeTxn}
	case s.Kind == 6 || s.Kind == 7:
		e.end(s.Txn, t, s.Kind)
		return impl.Answer{}
	case (s.Kind == 2 || s.Kind == 3) && len(s.Data) > mostRecord:
		return impl.Answer{Code: codeBig}
	case s.Kind == 2:
		id := impl.FreshId(e.lengths, e.holds, e.locks, s.Txn, int64(len(s.Data)))
		if id < 0 {
			return impl.Answer{Code: codeSpace}
		}
		if e.update(s.Txn, t, id, impl.PageRecord{Used: true, Data: s.Data}) {
			return impl.Answer{Id: id}
		}
		return impl.Answer{Code: codeLog}
	case !within(s.Id, 0, e.g.Pages*slotsEach-1):
		return impl.Answer{Code: codeId}
	}
	mode := int64(2)
	if s.Kind == 5 {
		mode = 1
	}
	asked := impl.LockAsk(e.locks, s.Txn, s.Id, mode)
	if asked.Code == 1 {
		return impl.Answer{Code: codeConflict}
	}
	if e.lengths[s.Id] < 0 {
		e.locks = asked.Locks
		return impl.Answer{Code: codeAbsent}
	}
	if s.Kind == 5 {
		e.locks = asked.Locks
		e.fetch(s.Id / slotsEach)
		return impl.Answer{Data: impl.PageGet(e.bytesOf(s.Id/slotsEach), s.Id%slotsEach).Data}
	}
	after := impl.PageRecord{Used: s.Kind == 3, Data: s.Data}
	if s.Kind == 3 && !impl.RoomFor(e.lengths, e.holds, s.Id, int64(len(s.Data))) {
		return impl.Answer{Code: codeSpace}
	}
	if !e.update(s.Txn, t, s.Id, after) {
		return impl.Answer{Code: codeLog}
	}
	return impl.Answer{}
}

// needs are the bytes of log that a change keeps, by the document's table of records.
func needs(first bool, before, after int64) int64 {
	slot := func(length int64) int64 {
		if length < 0 {
			return 1
		}
		return 3 + length
	}
	need := (20 + 13 + 4 + slot(before) + slot(after)) + (20 + 13 + 4 + slot(before) + 8)
	if first {
		need += 2 * endFrame
	}
	return need
}

func (e *plainEngine) update(txn int64, t *plainOpen, id int64, after impl.PageRecord) bool {
	length := int64(-1)
	if after.Used {
		length = int64(len(after.Data))
	}
	if e.free() < needs(t.last == 0, e.lengths[id], length) {
		return false
	}
	e.locks = impl.LockAsk(e.locks, txn, id, 2).Locks
	e.holds = impl.HoldTake(e.holds, txn, id, e.lengths[id], length)
	e.fetch(id / slotsEach)
	before := impl.PageGet(e.bytesOf(id/slotsEach), id%slotsEach)
	u := impl.LogRecord{Kind: 1, Txn: txn, Prev: t.last, Page: id / slotsEach, Slot: id % slotsEach, Before: before, After: after}
	e.change(t, u)
	t.updates = append(t.updates, u)
	return true
}

func (e *plainEngine) end(txn int64, t *plainOpen, kind int64) {
	if t.last != 0 && kind == 6 {
		e.logOf(t, impl.LogRecord{Kind: 3, Txn: txn})
		e.flush()
	}
	if t.last != 0 && kind == 7 {
		e.logOf(t, impl.LogRecord{Kind: 4, Txn: txn})
		for _, u := range slices.Backward(t.updates) {
			e.change(t, impl.UndoOf(u))
		}
	}
	if t.last != 0 {
		e.logOf(t, impl.LogRecord{Kind: 5, Txn: txn})
	}
	e.locks = impl.LockFree(e.locks, txn).Locks
	e.holds = impl.HoldFree(e.holds, txn)
	delete(e.open, txn)
}

func (e *plainEngine) reserved() int64 {
	all := int64(0)
	for _, t := range e.open {
		for _, u := range t.updates {
			all += impl.FrameSize(impl.UndoOf(u))
		}
		if t.last != 0 {
			all += 2 * endFrame
		}
	}
	return all
}

func (e *plainEngine) imagedPages() int64 {
	n := int64(0)
	for _, is := range e.imaged {
		if is {
			n++
		}
	}
	return n
}

func (e *plainEngine) free() int64 {
	return impl.LogFree(e.g, e.log.End, e.master.Low, e.imagedPages(), e.reserved())
}

func (e *plainEngine) tooLong(end int64) bool {
	return end-e.master.Low > e.g.LogSectors*sectorSize-sectorSize
}

func (e *plainEngine) append(r impl.LogRecord) int64 {
	a := impl.LogAppend(e.log, r)
	e.corruptIf("the last place", a.Code != 0)
	e.corruptIf("more than the log holds", e.tooLong(a.Log.End))
	e.log = a.Log
	return a.LSN
}

func (e *plainEngine) logOf(t *plainOpen, r impl.LogRecord) int64 {
	r.Prev = t.last
	t.last = e.append(r)
	if t.first == 0 {
		t.first = t.last
	}
	return t.last
}

func (e *plainEngine) flush() {
	e.ops(impl.LogFlushOps(e.log))
	e.log = impl.LogFlushed(e.log)
}

func (e *plainEngine) bytesOf(page int64) []byte {
	return e.pool.Frames[impl.PoolFind(e.pool, page)].Bytes
}

func (e *plainEngine) writeBack(page int64) {
	sealed := impl.PageSeal(e.bytesOf(page))
	if !e.imaged[page] {
		e.append(impl.LogRecord{Kind: 8, Page: page, Image: sealed})
		e.imaged[page] = true
		e.images++
	}
	e.flush()
	e.ops(impl.PageOps(e.g, page, sealed))
	e.pool = impl.PoolClean(e.pool, page).Pool
	e.writtenBack++
}

// fetch tells whether the page was read from the disk for this.
func (e *plainEngine) fetch(page int64) bool {
	e.corruptIf("a page that there is not", page >= e.g.Pages)
	if impl.PoolFind(e.pool, page) >= 0 {
		e.pool = impl.PoolUnpin(impl.PoolPin(e.pool, page).Pool, page).Pool
		return false
	}
	v := impl.PoolVictim(e.pool)
	e.pool = v.Pool
	if e.pool.Frames[v.Frame].Dirty {
		e.evicted++
		e.writeBack(e.pool.Frames[v.Frame].Page)
	}
	e.pool = impl.PoolLoad(e.pool, v.Frame, page, impl.ReadPage(e.disk, e.g, page)).Pool
	return true
}

func (e *plainEngine) unsound(page int64) bool {
	b := e.bytesOf(page)
	return !impl.PageWhole(b) || impl.PageFault(b, page) != 0
}

func (e *plainEngine) set(r impl.LogRecord, lsn int64) {
	set := impl.PageSet(e.bytesOf(r.Page), r.Slot, r.After, lsn)
	e.corruptIf("a change that does not fit", set.Code != 0)
	e.pool = impl.PoolPut(e.pool, r.Page, set.Page, lsn).Pool
}

func (e *plainEngine) change(t *plainOpen, r impl.LogRecord) {
	e.corruptIf("a change of a page that is not whole", e.fetch(r.Page) && e.unsound(r.Page))
	e.set(r, e.logOf(t, r))
	if e.up {
		length := int64(-1)
		if r.After.Used {
			length = int64(len(r.After.Data))
		}
		e.lengths[r.Page*slotsEach+r.Slot] = length
	}
}

// checkpoint is told whether it is one that is not refused.
func (e *plainEngine) checkpoint(always bool) int64 {
	tables := impl.LogRecord{Kind: 7, NextTxn: e.next}
	low := int64(greatestLSN)
	for _, txn := range slices.Sorted(maps.Keys(e.open)) {
		if t := e.open[txn]; t.last != 0 {
			tables.Txns = append(tables.Txns, impl.TxnEntry{Txn: txn, State: 1, Last: t.last, UndoNext: t.last})
			low = min(low, t.first)
		}
	}
	var old []int64
	images := int64(0)
	for page := range e.g.Pages {
		i := slices.IndexFunc(e.pool.Frames, func(f impl.Frame) bool { return f.Page == page && f.Dirty })
		switch {
		case i < 0:
		case len(tables.Txns) == 0 || e.pool.Frames[i].RecLSN < e.log.End-keptLog:
			old = append(old, page)
			if !e.imaged[page] {
				images++
			}
		default:
			tables.Dirty = append(tables.Dirty, impl.DirtyEntry{Page: page, RecLSN: e.pool.Frames[i].RecLSN})
			low = min(low, e.pool.Frames[i].RecLSN)
		}
	}
	begin := e.log.End + images*imageFrame
	low = min(low, begin)
	end := begin + endFrame + 39 + 21*int64(len(tables.Txns)) + 10*int64(len(tables.Dirty))
	if !always && impl.LogFree(e.g, end, low, 0, e.reserved()) < 0 {
		return codeLog
	}
	for _, page := range old {
		e.writeBack(page)
	}
	ckpt := e.append(impl.LogRecord{Kind: 6})
	e.append(tables)
	e.flush()
	e.writeMaster(impl.Master{Seq: e.master.Seq + 1, Epoch: e.master.Epoch, Ckpt: ckpt, Low: low})
	e.imaged = [mostPages]bool{}
	return 0
}

func (e *plainEngine) writeMaster(m impl.Master) {
	ops := impl.MasterOps(e.slot, m)
	e.corruptIf("the last master", len(ops) == 0)
	e.ops(ops)
	e.master, e.slot = m, 1-e.slot
}

func (e *plainEngine) restart() []impl.HeapRecord {
	picked := impl.PickMaster(e.disk)
	e.corruptIf("no master", !picked.Good)
	old := picked.Master
	e.slot = picked.Slot
	e.writeMaster(impl.Master{Seq: old.Seq + 1, Epoch: old.Epoch + 1, Ckpt: old.Ckpt, Low: old.Low})
	scan := impl.ScanLog(e.disk, e.g.LogSectors, old.Low, old.Epoch)
	a := impl.Analyze(scan, old.Ckpt)
	e.corruptIf("no checkpoint", a.Code == 1)
	e.corruptIf("frames out of order", a.Code == 2)
	e.corruptIf("more than the log holds already", e.tooLong(a.End))
	frames := scan.Frames[:a.Frames]
	e.log = impl.LogLoad(e.disk, e.g.LogSectors, a.End, old.Epoch+1)
	e.pool, e.next = impl.PoolNew(e.g.Frames), a.NextTxn
	e.imaged = [mostPages]bool{}
	for _, page := range a.Imaged {
		e.imaged[page] = true
	}
	e.open, e.locks, e.holds = map[int64]*plainOpen{}, nil, nil
	e.redo(frames, a.Dirty)
	e.undo(frames, a.Txns)
	e.checkpoint(true)
	heap := impl.Heap(e.disk, e.g)
	e.corruptIf("a heap that is not whole", !heap.Good)
	e.lengths, e.up = impl.Lengths(e.disk, e.g), true
	return heap.Records
}

func (e *plainEngine) redo(frames []impl.LogFrame, dirty []impl.DirtyEntry) {
	for _, f := range frames {
		r := f.Record
		i := slices.IndexFunc(dirty, func(d impl.DirtyEntry) bool { return d.Page == r.Page })
		if r.Kind > 2 || i < 0 || f.LSN < dirty[i].RecLSN {
			continue
		}
		if e.fetch(r.Page) && e.unsound(r.Page) {
			e.torn++
			image := impl.LastImage(frames, r.Page)
			e.corruptIf("no image", image.Code != 0)
			e.pool = impl.PoolPut(e.pool, r.Page, image.Page, dirty[i].RecLSN).Pool
		}
		if impl.PageLSN(e.bytesOf(r.Page)) < f.LSN {
			e.set(r, f.LSN)
		}
	}
}

func (e *plainEngine) undo(frames []impl.LogFrame, entries []impl.TxnEntry) {
	plan := impl.PlanUndo(frames, entries)
	e.corruptIf("nowhere to undo", plan.Code != 0)
	for _, entry := range entries {
		e.open[entry.Txn] = &plainOpen{first: entry.Last, last: entry.Last}
	}
	for _, s := range plan.Steps {
		if s.Kind == 5 {
			e.logOf(e.open[s.Txn], impl.LogRecord{Kind: 5, Txn: s.Txn})
			delete(e.open, s.Txn)
			continue
		}
		i := slices.IndexFunc(frames, func(f impl.LogFrame) bool { return f.LSN == s.LSN })
		e.change(e.open[s.Txn], impl.UndoOf(frames[i].Record))
	}
}

// anyKeep keeps all, none or some of what is pending.
func anyKeep(r *rand.Rand, pending int) []int64 {
	switch r.Intn(4) {
	case 0:
		return nil
	case 1:
		return keepAll(pending)
	}
	keep := make([]int64, pending)
	for i := range keep {
		keep[i] = int64(r.Intn(3)) - 1
	}
	return keep[:len(keep)-r.Intn(len(keep)/4+1)]
}
