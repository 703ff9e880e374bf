package tests

import (
	"bytes"
	"maps"
	"math/rand"
	"slices"
	"testing"

	"loop.example/s02544/impl"
)

// framesSince are the frames that the log has from the last checkpoint on, as a reader sees them.
func framesSince(g impl.Geometry, d impl.Disk) []impl.LogFrame {
	m := impl.PickMaster(d).Master
	return impl.ScanLog(d, g.LogSectors, m.Ckpt, m.Epoch).Frames
}

func imagesOf(frames []impl.LogFrame) map[int64]int {
	count := map[int64]int{}
	for _, f := range frames {
		if f.Record.Kind == 8 {
			count[f.Record.Page]++
		}
	}
	return count
}

// TestAPageGoesForAnother follows a page that is written back for another one.
func TestAPageGoesForAnother(t *testing.T) {
	g, open := crowded()
	before := impl.RunEngine(g, impl.Format(g), open)
	// The pages 0, 2 and 3 are dirty in the pool, and the hand stands at the page 2.
	after := impl.RunEngine(g, impl.Format(g), script(open, reads(2, 33)))
	if string(lastOf(after).Data) != textOf(950, 'f') {
		t.Error("the record of a page that was read again is", lastOf(after).Data[:5])
	}
	for page := range g.Pages {
		changed := !bytes.Equal(impl.ReadPage(before.Disk, g, page), impl.ReadPage(after.Disk, g, page))
		if changed != (page == 2) {
			t.Error("the page", page, "is written:", changed)
		}
	}
	written := impl.ReadPage(after.Disk, g, 2)
	if !impl.PageWhole(written) || impl.PageFault(written, 2) != 0 || string(impl.PageGet(written, 3).Data) != textOf(950, 'l') {
		t.Error("a page that was written back is not whole")
	}
	frames := framesSince(g, after.Disk)
	last := frames[len(frames)-1]
	if last.Record.Kind != 8 || last.Record.Page != 2 || !bytes.Equal(last.Record.Image, written) {
		t.Error("ahead of it there is no image of it, but", last.Record.Kind)
	}
	if len(after.Disk.Pending) != 8 || after.Disk.Pending[0].Sector != impl.PageSector(g, 2) {
		t.Error("the log is not synced ahead of the page")
	}
	if after.Free != before.Free {
		t.Error("an image takes room that was not kept for it:", before.Free-after.Free)
	}
	again := impl.RunEngine(g, impl.Format(g), script(open, reads(2, 33), reads(2, 65), updates(2, 1, "y")))
	if again.Answers[len(open)+1].Used != 18 || lastOf(again).Used != 0 {
		t.Error("the next pages go with", codesOf(again), again.Answers[len(open)+1].Used, lastOf(again).Used)
	}
}

// TestAnImageOnceBetweenTwoCheckpoints changes two pages more than there are frames, again and again.
func TestAnImageOnceBetweenTwoCheckpoints(t *testing.T) {
	g, open := crowded()
	round := script(updates(3, 1, "a"), updates(3, 33, "b"), updates(3, 65, "c"), updates(3, 97, "d"))
	steps := script(open, commits(2), checkpoints(), begins(), round)
	first := impl.RunEngine(g, impl.Format(g), steps)
	for n := 1; n <= 4; n++ {
		steps = script(steps, round)
		r := impl.RunEngine(g, impl.Format(g), steps)
		images := imagesOf(framesSince(g, r.Disk))
		for page, count := range images {
			if count > 1 {
				t.Error("the page", page, "has", count, "images behind one checkpoint")
			}
		}
		if n > 1 && len(images) != int(g.Pages) {
			t.Error("images of", images)
		}
		// A record of one byte in the place of another: 45 + 49 bytes, four times.
		if n == 1 {
			first = r
		} else if first.Free-r.Free != int64(n-1)*4*needs(false, 1, 1) {
			t.Error("the rounds take", first.Free-r.Free, "bytes of log")
		}
	}
	ends := impl.RunEngine(g, impl.Format(g), script(steps, checkpoints()))
	if images := imagesOf(framesSince(g, ends.Disk)); len(images) != 0 {
		t.Error("behind the checkpoint there are images of", images)
	}
	more := impl.RunEngine(g, impl.Format(g), script(steps, checkpoints(), round, round))
	images := imagesOf(framesSince(g, more.Disk))
	if !maps.Equal(images, map[int64]int{0: 1, 1: 1, 2: 1, 3: 1}) {
		t.Error("behind the next checkpoint there are images of", images)
	}
}

// TestTheLogIsAheadOfThePages asks of each page on the disk, wherever the power
// went, that the log knows its last change.
func TestTheLogIsAheadOfThePages(t *testing.T) {
	r := rand.New(rand.NewSource(124))
	written := 0
	for range 120 {
		g := anyGeometry(r)
		m := newScriptMaker(r, g)
		if r.Intn(3) > 0 {
			m.fill()
		}
		for range r.Intn(120) {
			m.goOn()
		}
		m.do(cuts(int64(r.Intn(30))))
		for range 30 {
			m.goOn()
		}
		written += m.e.writtenBack
		d := impl.RunEngine(g, impl.Format(g), m.steps).Disk
		for _, disk := range []impl.Disk{d, impl.DiskCrash(d, nil), impl.DiskSync(d), impl.DiskCrash(d, anyKeep(r, len(d.Pending)))} {
			logIsAhead(t, g, disk)
		}
	}
	if written == 0 {
		t.Error("no page was written back")
	}
}

func logIsAhead(t *testing.T, g impl.Geometry, d impl.Disk) {
	m := impl.PickMaster(d)
	if !m.Good {
		t.Fatal("no master")
	}
	end := impl.ScanLog(d, g.LogSectors, m.Master.Low, m.Master.Epoch).End
	for page := range g.Pages {
		b := impl.ReadPage(d, g, page)
		if impl.PageWhole(b) && impl.PageLSN(b) >= end {
			t.Fatal("the page", page, "has the change", impl.PageLSN(b), "and the log ends at", end)
		}
	}
}

// tablesAt are those of the checkpoint that the master names.
func tablesAt(g impl.Geometry, d impl.Disk) (impl.Master, impl.LogRecord) {
	m := impl.PickMaster(d).Master
	frames := framesSince(g, d)
	if len(frames) < 2 || frames[0].Record.Kind != 6 {
		return m, impl.LogRecord{}
	}
	return m, frames[1].Record
}

func TestWhatACheckpointTells(t *testing.T) {
	g := smallest(2)
	for _, c := range []struct {
		name  string
		steps []impl.Step
		want  impl.LogRecord
		low   int64
		used  int64
	}{
		{"of nothing", nil, tablesOf(1, nil), 656, 4},
		{"of transactions that logged nothing", script(begins(), begins(), reads(1, 5)), tablesOf(3, nil), 656, 4},
		{"of a page", script(begins(), inserts(1, "a"), commits(1)), tablesOf(2, nil), 656 + 42 + 33 + 33 + imageFrame, 10 + 8 + 4},
		{"of a transaction", script(begins(), inserts(1, "a"), begins()), tablesOf(3, entriesOf(1, 1, 656, 656), pagesOf(0, 656)...), 656, 4},
		{"of a transaction's last change", script(begins(), inserts(1, "a"), inserts(1, "b")), tablesOf(2, entriesOf(1, 1, 698, 698), pagesOf(0, 656)...), 656, 4},
		{"of two transactions", script(begins(), begins(), begins(), inserts(3, "a"), inserts(1, "b"), updates(3, 0, "c")), tablesOf(4, entriesOf(1, 1, 698, 698, 3, 1, 740, 740), pagesOf(0, 656)...), 656, 4},
		{"of one that stays and one that has ended", script(begins(), begins(), inserts(1, "a"), inserts(2, "b"), commits(1)), tablesOf(3, entriesOf(2, 1, 698, 698), pagesOf(0, 656)...), 656, 4},
		{"of one that was aborted", script(begins(), inserts(1, "a"), aborts(1)), tablesOf(2, nil), 656 + 42 + 33 + 46 + 33 + imageFrame, 10 + 8 + 4},
	} {
		steps := script(restarts(), c.steps, checkpoints())
		r := impl.RunEngine(g, impl.Format(g), steps)
		m, tables := tablesAt(g, r.Disk)
		if lastOf(r).Code != 0 || !sameLog(tables, c.want) {
			t.Error("a checkpoint", c.name, "tells", tables, "and not", c.want)
		}
		if m.Low != c.low || lastOf(r).Used != c.used {
			t.Error("a checkpoint", c.name, "has the least place", m.Low, "and does", lastOf(r).Used, "operations, not", c.low, c.used)
		}
		if m.Seq != 4 || m.Epoch != 2 || len(r.Disk.Pending) != 0 {
			t.Error("a checkpoint", c.name, "has the master", m, len(r.Disk.Pending))
		}
	}
}

// atTheBound has one page whose first change stands at 656, a transaction that
// stays open, and a log that ends KeepLog and so many bytes more behind that.
func atTheBound(more int) []impl.Step {
	// An insert of n bytes has 41 + n, an update of n bytes to m 43 + n + m.
	steps := script(restarts(), begins(), inserts(1, textOf(400, 'a')))
	for range 8 {
		steps = append(steps, updates(1, 0, textOf(400, 'b')))
	}
	return append(steps, updates(1, 0, textOf(keptLog-441-8*843-443+more, 'c')))
}

func TestAPageIsOldBehindKeepLog(t *testing.T) {
	g := impl.Geometry{Pages: 1, Frames: 3, LogSectors: 60}
	for more, dirty := range map[int][]impl.DirtyEntry{-1: pagesOf(0, 656), 0: pagesOf(0, 656), 1: nil, 2: nil} {
		r := impl.RunEngine(g, impl.Format(g), script(atTheBound(more), checkpoints()))
		m, tables := tablesAt(g, r.Disk)
		end := 656 + keptLog + int64(more)
		want := tablesOf(2, entriesOf(1, 1, end-443-int64(564+more), end-443-int64(564+more)), dirty...)
		if lastOf(r).Code != 0 || !sameLog(tables, want) || m.Low != 656 {
			t.Error("with", more, "bytes more a checkpoint tells", tables, m.Low, "and not", want)
		}
		written := impl.PageLSN(impl.ReadPage(r.Disk, g, 0)) != 0
		if written != (dirty == nil) {
			t.Error("with", more, "bytes more the page is written:", written)
		}
		if ckpt := end + imageFrame*int64(1-len(dirty)); m.Ckpt != ckpt {
			t.Error("with", more, "bytes more the checkpoint stands at", m.Ckpt, "and not", ckpt)
		}
	}
	// If no transaction has logged something and not ended, the page is old wherever it was changed.
	for _, rest := range [][]impl.Step{script(commits(1)), script(aborts(1)), script(commits(1), begins(), reads(2, 0))} {
		r := impl.RunEngine(g, impl.Format(g), script(atTheBound(-1), rest, checkpoints()))
		if _, tables := tablesAt(g, r.Disk); lastOf(r).Code != 0 || len(tables.Txns)+len(tables.Dirty) != 0 {
			t.Error("without an open transaction a checkpoint tells", tables)
		}
	}
}

func TestOldAndYoungPagesOfOneCheckpoint(t *testing.T) {
	g := impl.Geometry{Pages: 3, Frames: 4, LogSectors: 120}
	steps := script(restarts(), begins())
	for range 12 {
		steps = append(steps, inserts(1, textOf(980, 'a')))
	}
	// The pages begin at 656, 656 + 4 * 1021 and 656 + 8 * 1021; the first one alone is old.
	steps = script(steps, begins(), reads(2, 0), commits(2))
	r := impl.RunEngine(g, impl.Format(g), script(steps, checkpoints()))
	m, tables := tablesAt(g, r.Disk)
	last := int64(656 + 11*1021)
	want := tablesOf(3, entriesOf(1, 1, last, last), pagesOf(1, 4740, 2, 8824)...)
	if !sameLog(tables, want) || m.Low != 656 || lastOf(r).Code != 0 {
		t.Error("with one old page a checkpoint tells", tables, m.Low, "and not", want)
	}
	r = impl.RunEngine(g, impl.Format(g), script(steps, commits(1), begins(), updates(3, 64, "x"), checkpoints()))
	m, tables = tablesAt(g, r.Disk)
	first := last + 1021 + 66
	want = tablesOf(4, entriesOf(3, 1, first, first), pagesOf(2, 8824)...)
	if !sameLog(tables, want) || m.Low != 8824 {
		t.Error("with a later transaction a checkpoint tells", tables, m.Low, "and not", want)
	}
	// The images of the first one make the third page old for the next one.
	r = impl.RunEngine(g, impl.Format(g), script(steps, commits(1), begins(), updates(3, 64, "x"), checkpoints(), checkpoints()))
	again, _ := tablesAt(g, r.Disk)
	if again.Low != first || again.Seq != m.Seq+1 {
		t.Error("one checkpoint behind another", again, m, lastOf(r).Used)
	}
}

func TestACheckpointThatIsRefused(t *testing.T) {
	g := impl.Geometry{Pages: 1, Frames: 3, LogSectors: 60}
	steps := script(restarts(), begins(), inserts(1, textOf(500, 'a')))
	for range 30 {
		steps = append(steps, updates(1, 0, textOf(500, 'b')))
	}
	full := impl.RunEngine(g, impl.Format(g), steps)
	if lastOf(full).Code != codeLog {
		t.Fatal("the log is not full:", codesOf(full))
	}
	if !refusedLeaves(t, g, steps, checkpoints()) {
		t.Error("a checkpoint with a full log is not refused")
	}
	for _, c := range []struct {
		name string
		rest []impl.Step
		want []int64
	}{
		{"again and again", script(checkpoints(), checkpoints()), []int64{codeLog, codeLog}},
		{"then its commit", script(checkpoints(), commits(1), checkpoints(), begins(), updates(2, 0, "x")), []int64{codeLog, 0, 0, 0, 0}},
		{"then its abort", script(checkpoints(), aborts(1), checkpoints(), begins(), inserts(2, "x")), []int64{codeLog, 0, 0, 0, 0}},
		{"then a crash", script(checkpoints(), crashes(), restarts(), checkpoints()), []int64{codeLog, 0, 0, 0}},
	} {
		r := impl.RunEngine(g, impl.Format(g), script(steps, c.rest))
		if !slices.Equal(codesOf(r)[len(steps):], c.want) {
			t.Error("a checkpoint with a full log and", c.name, "is answered", codesOf(r)[len(steps):])
		}
	}
}

// TestTheBoundOfARefusedCheckpoint makes the log fuller byte by byte: the last
// checkpoint that is taken leaves nothing, and the next one would leave less.
func TestTheBoundOfARefusedCheckpoint(t *testing.T) {
	g := smallest(1)
	// Begin, and Tables with one transaction and one page; but the least place goes from 584 to 656.
	size := int64(33 + 39 + 21 + 10 - 72)
	ahead := script(restarts(), begins(), inserts(1, textOf(900, 'a')))
	for impl.RunEngine(g, impl.Format(g), ahead).Free > 2*1000+900+700 {
		ahead = append(ahead, updates(1, 0, textOf(900, 'b')))
	}
	free := impl.RunEngine(g, impl.Format(g), ahead).Free
	met := map[int64]int{}
	for n := range int64(1001) {
		left := free - needs(false, 900, n)
		if left < size-3 || left > size+3 {
			continue
		}
		r := impl.RunEngine(g, impl.Format(g), script(ahead, updates(1, 0, textOf(int(n), 'c')), checkpoints()))
		want := int64(0)
		if left < size {
			want = codeLog
		}
		if lastOf(r).Code != want || want == 0 && r.Free != left-size {
			t.Error("with", left, "bytes left a checkpoint is answered", lastOf(r).Code, "and leaves", r.Free)
		}
		met[want]++
	}
	if met[0] == 0 || met[codeLog] == 0 {
		t.Error("the bound was not met:", free, met)
	}
}

// TestRoomBehindACheckpoint is P21, at each checkpoint of many scripts that no transaction keeps.
func TestRoomBehindACheckpoint(t *testing.T) {
	r := rand.New(rand.NewSource(125))
	for range 150 {
		g := anyGeometry(r)
		m := newScriptMaker(r, g)
		m.cutting = 0
		for range 100 {
			m.goOn()
		}
		m.do(cuts(-1))
		if !m.e.up {
			m.do(restarts())
		}
		for _, txn := range slices.Sorted(maps.Keys(m.e.open)) {
			m.do([]impl.Step{commits(txn), aborts(txn)}[r.Intn(2)])
		}
		m.do(begins())
		if len(m.e.lengths) > 0 && m.e.lengths[0] >= 0 {
			m.do(reads(m.e.next-1, 0))
		}
		got := impl.RunEngine(g, impl.Format(g), script(m.steps, checkpoints()))
		least := g.LogSectors*sectorSize - sectorSize - g.Pages*imageFrame - 2*(240+10*g.Pages)
		if lastOf(got).Code != 0 || got.Free < least {
			t.Fatal("a checkpoint that nobody keeps is answered", lastOf(got).Code, "and leaves", got.Free, "of", least)
		}
		if h := impl.Heap(got.Disk, g); !h.Good {
			t.Fatal("behind it a page is not whole")
		}
	}
}
