package tests

import (
	"math/rand"
	"slices"
	"testing"

	"loop.example/s02544/impl"
)

// madeLog is a log made up of frames with whole sums, which an engine would not
// write, but of which each follows the one ahead of it.
type madeLog struct {
	r      *rand.Rand
	epoch  int64
	end    int64
	frames []impl.LogFrame
	last   map[int64]int64
	// The Updates of each transaction, which an Undo may lead back to.
	updates map[int64][]int64
	pages   int64
	length  func(r *rand.Rand) int
	// Whether the epochs rise.
	rising bool
}

func newMadeLog(r *rand.Rand, at, pages int64) *madeLog {
	return &madeLog{r: r, epoch: 1, end: at, last: map[int64]int64{}, updates: map[int64][]int64{}, pages: pages, length: anyLength}
}

func (m *madeLog) add(record impl.LogRecord) int64 {
	if m.rising && m.r.Intn(25) == 0 {
		m.epoch++
	}
	lsn := m.end
	m.frames = append(m.frames, impl.LogFrame{LSN: lsn, Epoch: m.epoch, Record: record})
	m.end += int64(len(plainFrame(uint64(lsn), 1, plainEncode(record))))
	return lsn
}

func (m *madeLog) slot() impl.PageRecord {
	if m.r.Intn(3) == 0 {
		return impl.PageRecord{}
	}
	return impl.PageRecord{Used: true, Data: someBytes(m.r, m.length(m.r))}
}

func (m *madeLog) addUpdate(txn int64) {
	u := impl.LogRecord{Kind: 1, Txn: txn, Prev: m.last[txn], Page: m.r.Int63n(m.pages), Slot: m.r.Int63n(32), Before: m.slot(), After: m.slot()}
	if !u.Before.Used && !u.After.Used {
		u.After.Used = true
	}
	m.last[txn] = m.add(u)
	m.updates[txn] = append(m.updates[txn], m.last[txn])
}

func (m *madeLog) addUndo(txn int64) {
	back := int64(0)
	if list := m.updates[txn]; len(list) > 0 {
		back = list[m.r.Intn(len(list))]
	}
	if m.r.Intn(30) == 0 {
		back = m.r.Int63n(m.end)
	}
	m.last[txn] = m.add(undoBy(txn, m.last[txn], back, m.r.Int63n(m.pages), m.r.Int63n(32), m.slot()))
}

func (m *madeLog) goOn() {
	txn := 1 + m.r.Int63n(6)
	k := m.r.Intn(40)
	switch {
	case k == 0:
		m.add(imageOf(anyHeapPage(m.r, m.r.Int63n(m.pages))))
	case k == 1:
		m.add([]impl.LogRecord{beginning(), tablesOf(3, nil)}[m.r.Intn(2)])
	case k < 5 && m.last[txn] != 0:
		m.last[txn] = m.add(impl.LogRecord{Kind: 3 + m.r.Int63n(2), Txn: txn, Prev: m.last[txn]})
	case k < 8 && m.last[txn] != 0:
		m.add(endBy(txn, m.last[txn]))
		delete(m.last, txn)
		delete(m.updates, txn)
	case k < 12:
		m.addUndo(txn)
	default:
		m.addUpdate(txn)
	}
}

// checkpoint tells of the transactions as they are, and of any dirty pages.
func (m *madeLog) checkpoint() int64 {
	ckpt := m.add(beginning())
	tables := tablesOf(7, nil)
	for txn := int64(1); txn < 7; txn++ {
		if m.last[txn] != 0 {
			tables.Txns = append(tables.Txns, impl.TxnEntry{Txn: txn, State: 1 + m.r.Int63n(3), Last: m.last[txn], UndoNext: m.last[txn]})
		}
	}
	for page := range m.pages {
		if m.r.Intn(2) == 0 {
			tables.Dirty = append(tables.Dirty, impl.DirtyEntry{Page: page, RecLSN: 1 + m.r.Int63n(m.end)})
		}
	}
	m.add(tables)
	return ckpt
}

// lay has the frames on a disk from Format, under the master that names them.
func (m *madeLog) lay(g impl.Geometry, seq, ckpt int64) impl.Disk {
	d := impl.Format(g)
	for _, f := range m.frames {
		layAt(d, g.LogSectors, f.LSN, framed(f.LSN, f.Epoch, f.Record))
	}
	copy(d.Durable[sectorSize*m.r.Int63n(2):], plainMaster(impl.Master{Seq: seq, Epoch: m.epoch, Ckpt: ckpt, Low: m.frames[0].LSN}))
	return d
}

// madeDisk has a made log, and pages of which some are ahead of it, some behind it and some spoilt.
func madeDisk(r *rand.Rand, g impl.Geometry) impl.Disk {
	pages := g.Pages
	if r.Intn(6) == 0 {
		pages = min(mostPages, g.Pages+1)
	}
	m := newMadeLog(r, 512+r.Int63n(3000), pages)
	m.rising = true
	if r.Intn(2) == 0 {
		m.length = func(r *rand.Rand) int { return r.Intn(30) }
	}
	room := (g.LogSectors - 10) * sectorSize
	if r.Intn(8) == 0 {
		room += 8 * sectorSize
	}
	start := m.end
	for range r.Intn(15) {
		m.goOn()
	}
	ckpt := m.checkpoint()
	for most := r.Intn(150); most > 0 && m.end-start < room-imageFrame; most-- {
		m.goOn()
	}
	d := m.lay(g, 2+r.Int63n(9), ckpt)
	spoilt := r.Intn(3) == 0
	for page := range g.Pages {
		b := anyHeapPage(r, page)
		if r.Intn(3) > 0 {
			b = plainNewPage(page)
		}
		putLSN(b, uint64(r.Int63n(m.end)*r.Int63n(2)))
		b = plainSeal(b)
		if spoilt && r.Intn(4) == 0 {
			b = spoiled(r, b, page)
		}
		d = laidInto(d, g, page, b)
	}
	return d
}

// restartHolds is P20 of one disk: the answer, the bound, and what a plain engine
// does; then cut, and again behind that. It tells why the disk was refused.
func restartHolds(t *testing.T, r *rand.Rand, g impl.Geometry, d impl.Disk) string {
	e := newPlainEngine(g, d)
	want := e.step(restarts())
	got := impl.RunEngine(g, d, script(restarts()))
	if !sameReport(got, e.report([]impl.Answer{want})) {
		t.Fatal("a restart is answered", codesOf(got), got.Answers[0].Used, "and not", want.Code, want.Used, e.why)
	}
	a := got.Answers[0]
	if a.Code != 0 && a.Code != codeCorrupt || got.Up != (a.Code == 0) || a.Used > impl.RestartBound(g) {
		t.Fatal("a restart is answered", a.Code, "with", a.Used, "operations")
	}
	n := int64(r.Intn(int(a.Used) + 2))
	steps := script(cuts(n), restarts(), crashes(anyKeep(r, 60)...), restarts(), cuts(-1), crashes(), restarts(), begins(), restarts(), checkpoints())
	cut := impl.RunEngine(g, d, steps)
	if !sameReport(cut, plainRun(g, d, steps)) {
		t.Fatal("a restart that was cut at", n, "goes on with", codesOf(cut))
	}
	for i, s := range steps {
		c := cut.Answers[i]
		if s.Kind == 9 && (!slices.Contains([]int64{0, codeDown, codeCorrupt, codeUp}, c.Code) || c.Used > impl.RestartBound(g)) {
			t.Fatal("a restart is answered", c.Code, "with", c.Used, "operations")
		}
	}
	if n < a.Used && (cut.Answers[1].Code != codeDown || cut.Answers[1].Used != n) {
		t.Fatal("a restart that was cut at", n, "is answered", cut.Answers[1])
	}
	return e.why
}

func TestARestartOfAMadeLog(t *testing.T) {
	r := rand.New(rand.NewSource(127))
	met := map[string]int{}
	for range 500 {
		g := anyGeometry(r)
		met[restartHolds(t, r, g, madeDisk(r, g))]++
	}
	for _, why := range []string{"", "a page that there is not", "no image", "a change that does not fit", "nowhere to undo", "more than the log holds"} {
		if met[why] == 0 {
			t.Error("no disk was refused for", why, met)
		}
	}
}

// TestARestartOfASpoiltDisk spoils what an engine left: masters, log and pages, one by one and together.
func TestARestartOfASpoiltDisk(t *testing.T) {
	r := rand.New(rand.NewSource(128))
	met := map[string]int{}
	for range 60 {
		g := anyGeometry(r)
		m := newScriptMaker(r, g)
		m.fill()
		for range r.Intn(100) {
			m.goOn()
		}
		m.do(crashes(anyKeep(r, len(m.e.disk.Pending))...))
		whole := impl.RunEngine(g, impl.Format(g), m.steps).Disk
		pages := impl.PageSector(g, 0)
		for range 6 {
			d := copyOf(whole)
			for _, part := range []struct{ from, to int64 }{{0, 1}, {1, 2}, {2, pages}, {pages, impl.DiskSectors(g)}} {
				if r.Intn(3) > 0 {
					continue
				}
				for range 1 + r.Intn(4) {
					sector := part.from + r.Int63n(part.to-part.from)
					if r.Intn(2) == 0 {
						d.Durable[sector*sectorSize+r.Int63n(40)] ^= byte(1 + r.Intn(255))
					} else {
						d.Pending = append(d.Pending, impl.SectorWrite{Sector: sector, Data: anyBytes(r)})
					}
				}
			}
			met[restartHolds(t, r, g, d)]++
		}
	}
	for _, why := range []string{"", "no master", "no checkpoint", "a heap that is not whole"} {
		if met[why] == 0 {
			t.Error("no disk was refused for", why, met)
		}
	}
}

func TestARestartOfAnyBytes(t *testing.T) {
	r := rand.New(rand.NewSource(129))
	for range 200 {
		g := anyGeometry(r)
		d := impl.Disk{Durable: someBytes(r, int(impl.DiskSectors(g)*sectorSize))}
		if r.Intn(2) == 0 {
			copy(d.Durable, plainMaster(anyMaster(r)))
		}
		if r.Intn(2) == 0 {
			copy(d.Durable[sectorSize:], plainMaster(anyMaster(r)))
		}
		for range r.Intn(3) {
			d.Pending = append(d.Pending, impl.SectorWrite{Sector: r.Int63n(4), Data: plainMaster(anyMaster(r))})
		}
		if why := restartHolds(t, r, g, d); why == "" {
			t.Error("bytes that are no heap pass as one")
		}
	}
	for _, b := range []byte{0, 1, 255} {
		g := smallest(3)
		d := impl.Disk{Durable: slices.Repeat([]byte{b}, int(impl.DiskSectors(g)*sectorSize))}
		if why := restartHolds(t, r, g, d); why != "no master" {
			t.Error("a disk of one byte is refused for", why)
		}
	}
}

// handLog has frames behind a checkpoint without entries at 512.
func handLog(g impl.Geometry, records ...impl.LogRecord) impl.Disk {
	d := impl.Format(g)
	end := int64(584)
	for _, record := range records {
		b := framed(end, 1, record)
		layAt(d, g.LogSectors, end, b)
		end += int64(len(b))
	}
	return d
}

func TestEachPlaceOfErrCorrupt(t *testing.T) {
	g := smallest(2)
	mastered := func(m impl.Master) impl.Disk {
		d := impl.Format(g)
		copy(d.Durable, plainMaster(m))
		return d
	}
	torn := func(d impl.Disk, page int64) impl.Disk {
		d = copyOf(d)
		d.Durable[impl.PageSector(g, page)*sectorSize+30] ^= 1
		return d
	}
	long := impl.PageRecord{Used: true, Data: make([]byte, 1000)}
	insert := updateBy(1, 0, 0, 3, recordOf("x"))
	full := []impl.LogRecord{updateBy(1, 0, 0, 0, long)}
	prev := int64(584)
	for slot := int64(1); slot < 4; slot++ {
		full = append(full, updateBy(1, prev, 0, slot, long))
		prev += 1041
	}
	// Its undoing has no room in a page that another one has filled.
	crowd := []impl.LogRecord{{Kind: 1, Txn: 2, Page: 0, Slot: 9, Before: long}}
	for slot := int64(0); slot < 3; slot++ {
		crowd = append(crowd, impl.LogRecord{Kind: 1, Txn: 1, Prev: 0, Page: 0, Slot: slot, After: long})
	}
	crowd[2].Prev, crowd[3].Prev = 584+1041, 584+2*1041
	crowd = append(crowd, commitBy(1, 584+3*1041))
	for _, c := range []struct {
		name string
		why  string
		disk impl.Disk
		used int64
	}{
		{"a new disk", "", impl.Format(g), 6},
		{"no master", "no master", impl.NewDisk(impl.DiskSectors(g)), 0},
		{"the greatest Seq", "the last master", mastered(impl.Master{Seq: greatestSeq, Epoch: 1, Ckpt: 512, Low: 512}), 0},
		{"the greatest epoch", "the last master", mastered(impl.Master{Seq: 1, Epoch: greatestEpoch, Ckpt: 512, Low: 512}), 0},
		{"the last Seq but one", "the last master", mastered(impl.Master{Seq: greatestSeq - 1, Epoch: 1, Ckpt: 512, Low: 512}), 4},
		{"the last Seq but two", "", mastered(impl.Master{Seq: greatestSeq - 2, Epoch: 1, Ckpt: 512, Low: 512}), 6},
		{"the last epoch but one", "", mastered(impl.Master{Seq: 1, Epoch: greatestEpoch - 1, Ckpt: 512, Low: 512}), 6},
		{"a checkpoint that is none", "no checkpoint", mastered(impl.Master{Seq: 1, Epoch: 1, Ckpt: 545, Low: 512}), 2},
		{"a checkpoint far away", "no checkpoint", mastered(impl.Master{Seq: 1, Epoch: 1, Ckpt: greatestLSN, Low: greatestLSN}), 2},
		{"a least place between frames", "no checkpoint", mastered(impl.Master{Seq: 1, Epoch: 1, Ckpt: 545, Low: 544}), 2},
		{"a transaction that was never begun", "frames out of order", handLog(g, commitBy(1, 0)), 2},
		{"a frame that does not follow", "frames out of order", handLog(g, insert, updateBy(1, 583, 0, 1, recordOf("y"))), 2},
		{"an Undo that leads to itself", "frames out of order", handLog(g, undoBy(1, 0, 584, 0, 3, recordOf("x"))), 2},
		{"an Undo that leads nowhere", "nowhere to undo", handLog(g, undoBy(1, 0, 583, 0, 3, recordOf("x"))), 2},
		{"an Undo that leads to another's change", "nowhere to undo", handLog(g, insert, undoBy(2, 0, 584, 0, 4, recordOf("x"))), 2},
		{"a page that there is not", "a page that there is not", handLog(g, updateBy(1, 0, 2, 3, recordOf("x"))), 2},
		{"a record that does not fit", "a change that does not fit", handLog(g, full...), 2},
		{"an undoing that does not fit", "a change that does not fit", handLog(g, crowd...), 2},
		{"a torn page without image", "no image", torn(handLog(g, insert, commitBy(1, 584)), 0), 2},
		{"a torn page with its image", "", torn(handLog(g, imageOf(impl.PageNew(0)), updateBy(1, 0, 0, 3, recordOf("x")), commitBy(1, 584+imageFrame)), 0), -1},
		{"a torn page that nobody changed", "a heap that is not whole", torn(impl.Format(g), 1), 6},
		{"a torn page that is undone", "a change of a page that is not whole", torn(undoneOnly(g), 0), 2},
		{"the same, and whole", "", undoneOnly(g), -1},
	} {
		e := newPlainEngine(g, c.disk)
		e.step(restarts())
		r := impl.RunEngine(g, c.disk, script(restarts()))
		want := int64(0)
		if c.why != "" {
			want = codeCorrupt
		}
		if e.why != c.why || r.Answers[0].Code != want || c.used >= 0 && r.Answers[0].Used != c.used || r.Up != (want == 0) {
			t.Error(c.name, "is answered", r.Answers[0].Code, r.Answers[0].Used, "and not", want, c.used, e.why)
		}
		if want != 0 && !isZeroReport(impl.Report{Up: r.Up, Locks: r.Locks, Holds: r.Holds, Room: r.Room, Free: r.Free}, 0) {
			t.Error(c.name, "leaves something in memory")
		}
		more := impl.RunEngine(g, c.disk, script(restarts(), begins(), restarts()))
		if again := lastOf(more).Code; want != 0 && (again != codeCorrupt || more.Answers[1].Code != codeDown) || want == 0 && again != codeUp {
			t.Error(c.name, "and once more is answered", codesOf(more))
		}
		restartHolds(t, rand.New(rand.NewSource(1)), g, c.disk)
	}
}

// undoneOnly has a transaction whose change stands ahead of the checkpoint, in a
// page that was written back behind it: it is undone, and not redone.
func undoneOnly(g impl.Geometry) impl.Disk {
	d := impl.Format(g)
	update := updateBy(1, 0, 0, 3, recordOf("x"))
	ckpt := int64(512)
	for _, record := range []impl.LogRecord{update, beginning(), tablesOf(2, entriesOf(1, 1, 512, 512))} {
		b := framed(ckpt, 1, record)
		layAt(d, g.LogSectors, ckpt, b)
		ckpt += int64(len(b))
	}
	copy(d.Durable, plainMaster(impl.Master{Seq: 1, Epoch: 1, Ckpt: 512 + impl.FrameSize(update), Low: 512}))
	return laidInto(d, g, 0, plainSeal(plainSet(plainNewPage(0), 3, recordOf("x"), 512)))
}

// TestTheEndOfAllNumbers: a log or a master that can go no further stops the machine.
func TestTheEndOfAllNumbers(t *testing.T) {
	g := smallest(1)
	near := func(left int64) impl.Disk {
		m := newMadeLog(rand.New(rand.NewSource(2)), greatestLSN-left-72, 1)
		m.frames = []impl.LogFrame{{LSN: m.end, Epoch: 1, Record: beginning()}, {LSN: m.end + 33, Epoch: 1, Record: tablesOf(1, nil)}}
		return m.lay(g, 5, m.end)
	}
	change := script(begins(), inserts(1, ""))
	for _, c := range []struct {
		name  string
		disk  impl.Disk
		steps []impl.Step
		want  []int64
	}{
		{"no place for a Begin", near(32), nil, []int64{codeCorrupt}},
		{"no place for Tables", near(71), nil, []int64{codeCorrupt}},
		{"a place for a checkpoint", near(72), nil, []int64{0}},
		{"no place for a change", near(72), script(change, begins()), []int64{0, 0, codeCorrupt, codeDown}},
		{"a place for a change", near(72 + 41), script(change, commits(1)), []int64{0, 0, 0, codeCorrupt}},
		{"a place for a change and its abort", near(72 + 41 + 33 + 46 + 33), script(change, aborts(1), begins()), []int64{0, 0, 0, 0, 0}},
		{"no place for the end of an abort", near(72 + 41 + 33 + 46 + 32), script(change, aborts(1), begins()), []int64{0, 0, 0, codeCorrupt, codeDown}},
		{"no place for a commit's end", near(72 + 41 + 33), script(change, commits(1), restarts()), []int64{0, 0, 0, codeCorrupt, codeCorrupt}},
	} {
		r := impl.RunEngine(g, c.disk, script(restarts(), c.steps))
		if !slices.Equal(codesOf(r), c.want) {
			t.Error(c.name, "is answered", codesOf(r), "and not", c.want)
		}
		if !sameReport(r, plainRun(g, c.disk, script(restarts(), c.steps))) {
			t.Error(c.name, "leaves something else than it should")
		}
	}
	d := impl.Format(g)
	copy(d.Durable, plainMaster(impl.Master{Seq: greatestSeq - 3, Epoch: 1, Ckpt: 512, Low: 512}))
	r := impl.RunEngine(g, d, script(restarts(), checkpoints(), checkpoints(), begins()))
	if !slices.Equal(codesOf(r), []int64{0, 0, codeCorrupt, codeDown}) {
		t.Error("the last master of all is answered", codesOf(r))
	}
}

// TestALogThatIsTooLong has frames up to the last byte that a scan takes.
func TestALogThatIsTooLong(t *testing.T) {
	g := smallest(1)
	room := (g.LogSectors - 1) * sectorSize
	for _, at := range []int64{512, 600, 1023} {
		for _, c := range []struct {
			bytes int64
			why   string
			used  int64
		}{
			{room - 72 - 33, "", 6},
			{room - 72 - 32, "more than the log holds", 2},
			{room - 33, "more than the log holds", 2},
			{room, "more than the log holds", 2},
			{room + 1, "more than the log holds already", 2},
			{room + sectorSize - at%sectorSize, "more than the log holds already", 2},
		} {
			m := newMadeLog(rand.New(rand.NewSource(3)), at, 1)
			ckpt := m.add(beginning())
			m.add(tablesOf(1, nil))
			prev := int64(0)
			// Updates of one transaction that was committed, to the last byte; its End is to come.
			for left := c.bytes - 72 - 33; left > 0; {
				n := min(left, 1041)
				if left-n > 0 && left-n < 41 {
					n -= 41
				}
				prev = m.add(updateBy(1, prev, 0, 0, impl.PageRecord{Used: true, Data: make([]byte, n-41)}))
				left -= n
			}
			m.add(commitBy(1, prev))
			d := m.lay(g, 5, ckpt)
			// The page has all of it already.
			page := plainNewPage(0)
			putLSN(page, uint64(m.end))
			d = laidInto(d, g, 0, plainSeal(page))
			e := newPlainEngine(g, d)
			e.step(restarts())
			r := impl.RunEngine(g, d, script(restarts()))
			if e.why != c.why || (r.Answers[0].Code == 0) != (c.why == "") || c.why != "" && r.Answers[0].Used != c.used {
				t.Error("a log of", c.bytes, "bytes from", at, "on is answered", r.Answers[0].Code, r.Answers[0].Used, e.why)
			}
		}
	}
}

// TestALogThatIsTooLongFromTheStart has pages that redo would write back for others:
// nothing of that is done.
func TestALogThatIsTooLongFromTheStart(t *testing.T) {
	g := smallest(4)
	m := newMadeLog(rand.New(rand.NewSource(5)), 512, 4)
	ckpt := m.add(beginning())
	m.add(tablesOf(1, nil))
	for page := range g.Pages {
		m.add(imageOf(impl.PageNew(page)))
	}
	room := (g.LogSectors - 1) * sectorSize
	prev := int64(0)
	for n := int64(0); m.end-512 <= room-33; n++ {
		length := min(room-33-(m.end-512), 400)
		prev = m.add(updateBy(1, prev, n%4, 0, impl.PageRecord{Used: true, Data: make([]byte, length)}))
	}
	m.add(commitBy(1, prev))
	if m.end-512 <= room || m.end-512 > room+sectorSize {
		t.Fatal("the log has", m.end-512, "bytes of", room)
	}
	d := m.lay(g, 5, ckpt)
	if got := impl.ScanLog(d, g.LogSectors, 512, 1); got.End != m.end {
		t.Fatal("the scan ends at", got.End, "and not at", m.end)
	}
	if r := impl.RunEngine(g, d, script(restarts())); !sameAnswer(r.Answers[0], impl.Answer{Code: codeCorrupt, Used: 2}) {
		t.Error("a log that is too long is answered", r.Answers[0])
	}
}

// TestFramesOfALaterEpochAreNotTaken: the master's old epoch is the last one that counts.
func TestFramesOfALaterEpochAreNotTaken(t *testing.T) {
	g := smallest(1)
	insert := updateBy(1, 0, 0, 3, recordOf("x"))
	for epoch, want := range map[int64]int{1: 1, 2: 0, 3: 0} {
		d := impl.Format(g)
		first := framed(584, epoch, insert)
		layAt(d, g.LogSectors, 584, append(first, framed(584+int64(len(first)), epoch, commitBy(1, 584))...))
		r := impl.RunEngine(g, d, script(restarts(), crashes(), restarts()))
		for _, i := range []int{0, 2} {
			if a := r.Answers[i]; a.Code != 0 || len(a.Records) != want {
				t.Error("with frames of the epoch", epoch, "a restart is answered", a)
			}
		}
	}
}

// TestTheBoundOfARestart has logs of the shortest changes, each of another page
// than the one ahead, with all frames full: whatever is fetched is written back for another.
func TestTheBoundOfARestart(t *testing.T) {
	for _, g := range []impl.Geometry{{Pages: 16, Frames: 3, LogSectors: 800}, {Pages: 5, Frames: 3, LogSectors: leastLog(5)}, {Pages: 16, Frames: 4, LogSectors: leastLog(16)}} {
		for _, share := range []float64{0.45, 0.75} {
			d, updates := thrashing(g, share)
			r := impl.RunEngine(g, d, script(restarts(), crashes(), restarts()))
			used := r.Answers[0].Used
			if r.Answers[0].Code != 0 && share < 0.5 || used > impl.RestartBound(g) || used < 8*updates {
				t.Error("a restart of", g, "with", updates, "changes is answered", r.Answers[0].Code, "with", used, "operations, the bound is", impl.RestartBound(g))
			}
		}
	}
}

// thrashing has one transaction that did not end, in a part of the log.
func thrashing(g impl.Geometry, share float64) (impl.Disk, int64) {
	m := newMadeLog(rand.New(rand.NewSource(4)), 512, g.Pages)
	ckpt := m.add(beginning())
	m.add(tablesOf(1, nil))
	prev := int64(0)
	n := int64(0)
	for ; float64(m.end) < share*float64(g.LogSectors*sectorSize-g.Pages*imageFrame); n++ {
		prev = m.add(updateBy(1, prev, n%g.Pages, n/g.Pages%32, impl.PageRecord{Used: true}))
	}
	return m.lay(g, 5, ckpt), n
}
