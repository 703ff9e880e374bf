package tests

import (
	"bytes"
	"math"
	"math/rand"
	"testing"

	"loop.example/s02544/impl"
)

// TestScanFindsWhatWasFlushed appends each kind, flushes at once and in parts, and asks from each frame on.
func TestScanFindsWhatWasFlushed(t *testing.T) {
	for _, sectors := range []int64{33, 64, 800} {
		for _, at := range []int64{512, 513, 1000, 1023, 1024, sectors * 512, (sectors+1)*512 - 1, (sectors + 1) * 512, 5*sectors*512 + 300} {
			for _, part := range []int{1, 2, 3, 5, 100} {
				w := writtenFrom(t, sectors, 6, at)
				for i, r := range plainLogs() {
					w.append(r.record)
					if (i+1)%part == 0 {
						w.flush()
						w.found(0, 6)
					}
				}
				w.flush()
				for i := range w.frames {
					w.found(i, 6)
					w.found(i, greatestEpoch)
				}
			}
		}
	}
}

// TestScanAcrossEachBorder lets a frame begin at each byte around the end of a sector and of a round.
func TestScanAcrossEachBorder(t *testing.T) {
	for _, border := range []int64{1024, 17 * 512, 33 * 512} {
		for at := border - 100; at <= border+40; at++ {
			w := writtenFrom(t, 16, 2, at)
			w.append(logOf(5), sized(64))
			w.flush()
			w.append(sized(700), logOf(5))
			w.flush()
			w.found(0, 2)
			w.found(1, 2)
			w.found(3, 2)
		}
	}
}

// TestScanUpToAWholeRound fills the sectors behind the beginning of the first one's sector to the last byte.
func TestScanUpToAWholeRound(t *testing.T) {
	for _, sectors := range []int64{16, 17, 33, 800} {
		for _, first := range []int64{512, 512 + 5, 1023, sectors*512 + 77, (sectors + 1) * 512, 7*sectors*512 + 511} {
			begin := first - first%512
			w := writtenFrom(t, sectors, 1, first)
			w.append(filling(begin + sectors*512 - first)...)
			w.flush()
			if w.log.End != begin+sectors*512 {
				t.Fatal("the test's own round ends at", w.log.End)
			}
			w.found(0, 1)
			w.found(len(w.frames)-1, 1)
		}
	}
}

// TestScanUpToAWholeRoundInParts flushes each record by itself, round after round,
// and asks each time for the oldest frame of which all behind fits.
func TestScanUpToAWholeRoundInParts(t *testing.T) {
	r := rand.New(rand.NewSource(54))
	for _, sectors := range []int64{16, 19} {
		w := writtenFrom(t, sectors, 3, 777)
		oldest := 0
		for range 300 {
			w.append(sized(41 + r.Intn(1001)))
			if r.Intn(3) == 0 {
				w.append(logOf(1 + r.Int63n(8)))
			}
			w.flush()
			for w.log.End > w.frames[oldest].LSN-w.frames[oldest].LSN%512+sectors*512 {
				oldest++
			}
			w.found(oldest, 3)
			w.found(len(w.frames)-1, 3)
		}
		if w.log.End < 4*sectors*512 {
			t.Fatal("the test's own log has gone only to", w.log.End)
		}
	}
}

// TestScanEndsAtAWholeRound lays the bytes of a frame that goes on into the sector of the first one, ahead of the first one.
func TestScanEndsAtAWholeRound(t *testing.T) {
	const sectors, first = 16, int64(512 + 400)
	for _, c := range []struct {
		name string
		last int64 // where the last frame but one ends
		want bool  // whether the last one is found
	}{
		{"a frame that ends at the round's end", 17*512 - 64, true},
		{"a frame that ends a byte behind it", 17*512 - 63, false},
		{"a frame that begins a byte ahead of it", 17*512 - 1, false},
		{"a frame that begins at the round's end", 17 * 512, false},
	} {
		w := writtenFrom(t, sectors, 1, first)
		w.append(filling(c.last - first)...)
		w.flush()
		w.found(0, 1)
		layAt(w.disk, sectors, c.last, framed(c.last, 1, sized(64)))
		got := impl.ScanLog(w.disk, sectors, first, 1)
		want := impl.Scan{Frames: w.frames, End: c.last}
		if c.want {
			want.Frames = append(want.Frames, impl.LogFrame{LSN: c.last, Epoch: 1, Record: sized(64)})
			want.End += 64
		}
		if !sameScan(got, want) {
			t.Error(c.name, ": the scan has", len(got.Frames), "frames up to", got.End, "and not", len(want.Frames), "up to", want.End)
		}
		if got = impl.ScanLog(w.disk, sectors, w.frames[1].LSN, 1); len(got.Frames) != len(w.frames) || got.End != c.last+64 {
			t.Error(c.name, ", from a sector behind on: the scan has", len(got.Frames), "frames up to", got.End)
		}
	}
}

func TestScanNearTheGreatestPlace(t *testing.T) {
	for _, sectors := range []int64{16, 33, 800} {
		w := writtenFrom(t, sectors, 1, greatestLSN-1041-64-33)
		w.append(sized(1041), sized(64), logOf(5))
		w.flush()
		if w.log.End != greatestLSN {
			t.Fatal("the test's own log ends at", w.log.End)
		}
		w.found(0, 1)
		w.found(2, 1)
		for _, from := range []int64{greatestLSN, greatestLSN - 1, greatestLSN - 512, greatestLSN - 513} {
			if got := impl.ScanLog(w.disk, sectors, from, 1); len(got.Frames) != 0 || got.End != from {
				t.Error("from", from, "on there are", len(got.Frames), "frames up to", got.End)
			}
		}
		for _, from := range []int64{greatestLSN + 1, math.MaxInt64} {
			if got := impl.ScanLog(w.disk, sectors, from, 1); len(got.Frames) != 0 || got.End != 0 {
				t.Error("from", from, "on there are", len(got.Frames), "frames up to", got.End)
			}
		}
		// Behind the greatest place there is no stream, though the sectors go on.
		for _, behind := range []int64{1, 32, 33} {
			d := copyOf(w.disk)
			at := greatestLSN - 33 + behind
			layAt(d, sectors, at, framed(at, 1, logOf(5)))
			if got := impl.ScanLog(d, sectors, at, 1); len(got.Frames) != 0 || got.End != at {
				t.Error("a frame that ends", behind, "bytes behind the greatest place is found:", len(got.Frames), got.End)
			}
		}
	}
}

// TestScanFromWithinASector asks at each place, of which only those where a frame begins have one.
func TestScanFromWithinASector(t *testing.T) {
	w := writtenFrom(t, 16, 1, 600)
	w.append(logOf(1), logOf(5), sized(500), logOf(7), logOf(6))
	w.flush()
	starts := map[int64]int{}
	for i, f := range w.frames {
		starts[f.LSN] = i
	}
	for from := int64(512); from < w.log.End+600; from++ {
		if i, is := starts[from]; is {
			w.found(i, 1)
			continue
		}
		if got := impl.ScanLog(w.disk, 16, from, 1); len(got.Frames) != 0 || got.End != from {
			t.Fatal("from", from, "on there are", len(got.Frames), "frames up to", got.End)
		}
	}
}

func TestScanOfEpochs(t *testing.T) {
	for _, c := range []struct {
		name   string
		epochs []int64
		most   int64
		want   int
	}{
		{"one epoch", []int64{4, 4, 4}, 4, 3},
		{"one epoch, most below", []int64{4, 4, 4}, 3, 0},
		{"rising epochs", []int64{1, 2, 2, 9, greatestEpoch}, greatestEpoch, 5},
		{"rising epochs up to a most", []int64{1, 2, 2, 9, 10}, 9, 4},
		{"rising epochs up to a most between", []int64{1, 2, 2, 9, 10}, 8, 3},
		{"an epoch that falls", []int64{3, 3, 2, 3}, 9, 2},
		{"an epoch that falls by one from a later one", []int64{1, 5, 4, 5}, 9, 2},
		{"an epoch that falls to the first", []int64{1, 2, 1, 1}, 9, 2},
		{"the first epoch", []int64{1}, 1, 1},
		{"the last epoch", []int64{greatestEpoch}, greatestEpoch, 1},
		{"the last epoch, most one below", []int64{greatestEpoch}, greatestEpoch - 1, 0},
		{"the last epoch, most far above", []int64{greatestEpoch}, math.MaxInt64, 1},
		{"an epoch 0, which is none", []int64{0, 1}, 9, 0},
		{"an epoch 0 behind another", []int64{1, 0, 1}, 9, 1},
		{"most 0", []int64{1, 1}, 0, 0},
		{"most below 0", []int64{1, 1}, -1, 0},
		{"most far below 0", []int64{1, 1}, math.MinInt64, 0},
	} {
		d := impl.NewDisk(18)
		at := int64(1000)
		want := impl.Scan{End: at}
		for i, epoch := range c.epochs {
			r := sized(50 + i)
			layAt(d, 16, at, framed(at, epoch, r))
			if i < c.want {
				want.Frames = append(want.Frames, impl.LogFrame{LSN: at, Epoch: epoch, Record: r})
				want.End = at + int64(50+i)
			}
			at += int64(50 + i)
		}
		if got := impl.ScanLog(d, 16, 1000, c.most); !sameScan(got, want) {
			t.Error(c.name, "has", len(got.Frames), "frames up to", got.End, "and not", c.want, "up to", want.End)
		}
	}
}

// TestScanBehindALaterEpoch lets a log begin anew at each frame of an earlier one, with the next epoch.
func TestScanBehindALaterEpoch(t *testing.T) {
	for again := range 8 {
		w := writtenFrom(t, 16, 1, 900)
		for range 8 {
			w.append(sized(64))
		}
		w.flush()
		late := &written{t: t, disk: w.disk, frames: w.frames[:again:again]}
		late.log = impl.LogLoad(w.disk, 16, w.frames[again].LSN, 2)
		// Frames of the same lengths, so that those of the epoch 1 still begin where these end.
		late.append(sized(64))
		late.flush()
		late.found(0, 2)
		late.found(again, 9)
		if got := impl.ScanLog(late.disk, 16, 900, 1); len(got.Frames) != again {
			t.Error("up to the epoch 1 there are", len(got.Frames), "and not", again)
		}
	}
	// Across sectors what an earlier epoch left does stand on the disk, whole.
	w := writtenFrom(t, 16, 1, 1024-64)
	w.append(sized(64), sized(64), sized(64))
	w.flush()
	d := impl.RunOps(w.disk, impl.LogFlushOps(impl.LogAppend(impl.LogLoad(w.disk, 16, 1024-64, 2), sized(64)).Log), -1).Disk
	if got := impl.ScanLog(d, 16, 1024, 2); len(got.Frames) != 2 {
		t.Fatal("the test's own frames of the epoch 1 are gone")
	}
	if got := impl.ScanLog(d, 16, 1024-64, 2); len(got.Frames) != 1 || got.Frames[0].Epoch != 2 || got.End != 1024 {
		t.Error("frames of an earlier epoch are found behind one of a later:", len(got.Frames), got.End)
	}
}

// TestScanPassesOverAnEarlierRound has frames of lengths by which those of the round ahead begin just where the log ends.
func TestScanPassesOverAnEarlierRound(t *testing.T) {
	w := writtenFrom(t, 16, 1, 512)
	for range 16 * 512 / 64 * 2 {
		w.append(sized(64))
	}
	w.flush()
	for range 16 {
		w.append(sized(64))
		w.flush()
		for n := len(w.frames) - 1; w.frames[n].LSN >= 33*512; n-- {
			w.found(n, 9)
		}
	}
	if w.log.End != 35*512 {
		t.Fatal("the test's own log ends at", w.log.End)
	}
	if old := impl.ScanLog(w.disk, 16, 19*512, 9); len(old.Frames) == 0 {
		t.Fatal("the test's own earlier round is gone")
	}
}

// TestScanOfATornFlush keeps some of the writes of a flush: what is found ends at the first sector that was lost.
func TestScanOfATornFlush(t *testing.T) {
	for _, at := range []int64{16*512 + 200, 512 * 3, 800} {
		w := writtenFrom(t, 16, 1, at)
		w.append(sized(100))
		w.flush()
		flushed := w.log.End
		for range 20 {
			w.append(sized(83))
		}
		ops := impl.LogFlushOps(w.log)
		writes := len(ops) - 1
		unsynced := impl.RunOps(w.disk, ops, int64(writes)).Disk
		for kept := range 1 << writes {
			var keep []int64
			lost := math.MaxInt
			for i := range writes {
				keep = append(keep, int64(kept>>i&1))
				if keep[i] == 0 {
					lost = min(lost, i)
				}
			}
			d := impl.DiskCrash(unsynced, keep)
			whole := w.log.End
			if lost < writes {
				whole = max(flushed, flushed-flushed%512+int64(lost)*512)
			}
			var want []impl.LogFrame
			for _, f := range w.frames {
				if f.LSN+impl.FrameSize(f.Record) <= whole {
					want = append(want, f)
				}
			}
			last := want[len(want)-1]
			got := impl.ScanLog(d, 16, at, 1)
			if !sameScan(got, impl.Scan{Frames: want, End: last.LSN + impl.FrameSize(last.Record)}) {
				t.Fatalf("of the writes %b of %d: %d frames up to %d, not %d", kept, writes, len(got.Frames), got.End, len(want))
			}
		}
	}
}

// TestScanOfACutFlush stops at each operation, and keeps all that was written.
func TestScanOfACutFlush(t *testing.T) {
	w := writtenFrom(t, 16, 1, 17*512-300)
	w.append(sized(200))
	w.flush()
	w.append(sized(1041), sized(64), sized(900))
	ops := impl.LogFlushOps(w.log)
	if len(ops) != 6 {
		t.Fatal("the test's own flush has", len(ops), "operations")
	}
	for n, want := range []int{1, 1, 1, 3, 3, 4, 4} {
		cut := impl.RunOps(w.disk, ops, int64(n)).Disk
		if got := impl.ScanLog(cut, 16, w.frames[0].LSN, 1); len(got.Frames) != want {
			t.Error("behind", n, "operations there are", len(got.Frames), "frames, not", want)
		}
		durable := 1
		if n == len(ops) {
			durable = 4
		}
		if got := impl.ScanLog(impl.DiskCrash(cut, nil), 16, w.frames[0].LSN, 1); len(got.Frames) != durable {
			t.Error("behind", n, "operations and a crash there are", len(got.Frames), "frames, not", durable)
		}
	}
}

// TestScanStopsAtAnyBrokenByte changes each byte of the second of three frames.
func TestScanStopsAtAnyBrokenByte(t *testing.T) {
	w := writtenFrom(t, 16, 1, 990)
	w.append(logOf(5), logOf(2), logOf(5))
	w.flush()
	for at := w.frames[1].LSN; at < w.frames[2].LSN; at++ {
		d := copyOf(w.disk)
		layAt(d, 16, at, []byte{plainStream(d, 16, at, at+1)[0] ^ 4})
		if got := impl.ScanLog(d, 16, 990, 1); len(got.Frames) != 1 || got.End != w.frames[1].LSN {
			t.Fatal("with a change at", at, "there are", len(got.Frames), "frames up to", got.End)
		}
	}
}

// TestScanSeesWhatAReaderSees has the frames in pending writes, over durable bytes and earlier writes that say something else.
func TestScanSeesWhatAReaderSees(t *testing.T) {
	w := writtenFrom(t, 16, 1, 700)
	w.append(sized(300), sized(300), sized(300))
	ops := impl.LogFlushOps(w.log)
	d := impl.NewDisk(18)
	for sector := range int64(18) {
		d.Pending = append(d.Pending, writeTo(sector, 99))
	}
	d = impl.RunOps(d, ops[:len(ops)-1], -1).Disk
	w.disk = d
	w.found(0, 1)
	if got := impl.LogLoad(d, 16, w.log.End, 1); !sameTail(got, impl.LogFlushed(w.log)) {
		t.Error("the log that is loaded from pending writes ends at", got.End, len(got.Tail))
	}
	d.Pending = append(d.Pending, writeTo(3, 98))
	if got := impl.ScanLog(d, 16, 700, 1); len(got.Frames) != 1 {
		t.Error("behind a later write there are", len(got.Frames), "frames")
	}
	if got := impl.LogLoad(d, 16, 1030, 1); !bytes.Equal(got.Tail, bytes.Repeat([]byte{98}, 6)) {
		t.Error("the tail behind a later write is", got.Tail)
	}
}

func TestScanOfNoLog(t *testing.T) {
	w := writtenFrom(t, 16, 1, 512)
	w.append(logOf(5))
	w.flush()
	w.found(0, 1)
	none := func(name string, d impl.Disk, sectors, from, most int64) {
		t.Helper()
		if got := impl.ScanLog(d, sectors, from, most); len(got.Frames) != 0 || got.End != 0 {
			t.Error(name, "has", len(got.Frames), "frames up to", got.End)
		}
	}
	for _, d := range faultyDisks() {
		none(d.name, d.disk, 16, 512, 1)
	}
	tooLong := copyOf(w.disk)
	tooLong.Durable = append(tooLong.Durable, 0)
	none("a log on a disk with a byte too many", tooLong, 16, 512, 1)
	badWrite := copyOf(w.disk)
	badWrite.Pending = []impl.SectorWrite{writeTo(18, 0)}
	none("a log on a disk with a write behind its end", badWrite, 16, 512, 1)
	few := copyOf(w.disk)
	few.Durable = few.Durable[:17*512]
	none("a disk of a sector too few", few, 16, 512, 1)
	for _, sectors := range []int64{15, 17, 801, 0, -1, math.MaxInt64, math.MinInt64} {
		none("a log of other sectors", w.disk, sectors, 512, 1)
	}
	none("too many sectors on the greatest disk", impl.NewDisk(1024), 801, 512, 1)
	for _, from := range []int64{511, 0, -1, -512, greatestLSN + 1, math.MaxInt64, math.MinInt64} {
		none("a place out of the stream", w.disk, 16, from, 1)
	}
	for _, c := range []struct{ size, sectors, end int64 }{{18, 16, 512}, {19, 17, 512}, {802, 800, 512}, {1024, 800, 512}, {1024, 16, 512}, {801, 800, 0}, {34, 33, 0}} {
		if got := impl.ScanLog(impl.NewDisk(c.size), c.sectors, 512, 1); got.End != c.end || len(got.Frames) != 0 {
			t.Error("a disk of", c.size, "sectors with a log of", c.sectors, "has the end", got.End)
		}
	}
}

func TestLogLoad(t *testing.T) {
	d := impl.NewDisk(18)
	for i := range d.Durable {
		d.Durable[i] = byte(i/512*3 + i%251)
	}
	for _, end := range []int64{512, 513, 1023, 1024, 17*512 - 1, 17 * 512, 17*512 + 1, 33*512 + 511, greatestLSN - 1, greatestLSN} {
		for _, epoch := range []int64{1, 2, greatestEpoch} {
			got := impl.LogLoad(d, 16, end, epoch)
			sector := plainPlace(16, end)
			want := impl.Log{Sectors: 16, Epoch: epoch, End: end, Flushed: end, Tail: d.Durable[sector*512 : sector*512+end%512]}
			if !sameTail(got, want) || impl.LogFault(got) != 0 {
				t.Errorf("the log up to %d in the epoch %d: %+v", end, epoch, got)
			}
		}
	}
}

func TestLogLoadOfNoLog(t *testing.T) {
	none := func(name string, d impl.Disk, sectors, end, epoch int64) {
		t.Helper()
		if got := impl.LogLoad(d, sectors, end, epoch); !isZeroTail(got) {
			t.Errorf("%s is loaded as %+v", name, got)
		}
	}
	good := impl.NewDisk(18)
	for _, d := range faultyDisks() {
		none(d.name, d.disk, 16, 600, 1)
	}
	none("a disk of a byte too many", impl.Disk{Durable: make([]byte, 18*512+1)}, 16, 600, 1)
	none("a disk of a sector too few", impl.NewDisk(17), 16, 600, 1)
	none("a disk of too few sectors for the greatest log", impl.NewDisk(801), 800, 600, 1)
	for _, sectors := range []int64{15, 17, 801, 0, -1, math.MaxInt64, math.MaxInt64 - 1, math.MinInt64} {
		none("a log of other sectors", good, sectors, 600, 1)
	}
	none("too many sectors on the greatest disk", impl.NewDisk(1024), 801, 600, 1)
	for _, end := range []int64{511, 0, -1, -600, greatestLSN + 1, math.MaxInt64, math.MinInt64} {
		none("an end out of the stream", good, 16, end, 1)
	}
	for _, epoch := range []int64{0, -1, greatestEpoch + 1, math.MaxInt64, math.MinInt64} {
		none("no epoch", good, 16, 600, epoch)
		none("no epoch at a sector's beginning", good, 16, 512, epoch)
	}
	for _, size := range []int64{802, 803, 1024} {
		if got := impl.LogLoad(impl.NewDisk(size), 800, 600, 1); got.End != 600 || len(got.Tail) != 88 {
			t.Error("the greatest log on a disk of", size, "sectors")
		}
	}
}

// TestLoadedLogGoesOn holds the log of the disk against that in memory, at each flush, and goes on with the one or the other.
func TestLoadedLogGoesOn(t *testing.T) {
	r := rand.New(rand.NewSource(55))
	for _, sectors := range []int64{16, 33} {
		w := writtenFrom(t, sectors, 5, 512)
		for range 200 {
			w.append(anyLog(r))
			if r.Intn(2) == 0 {
				w.append(sized(41 + r.Intn(600)))
			}
			w.flush()
			loaded := impl.LogLoad(w.disk, sectors, w.log.End, 5)
			if !sameTail(loaded, w.log) {
				t.Fatal("the log that is loaded at", w.log.End, "is another")
			}
			next := anyLog(r)
			if !sameAppend(impl.LogAppend(loaded, next), impl.LogAppend(w.log, next)) {
				t.Fatal("the log that was loaded at", w.log.End, "goes on in another way")
			}
			if r.Intn(2) == 0 {
				w.log = loaded
			}
		}
	}
}

// TestFlushWritesNothingElse flushes to a disk that is greater than the log.
func TestFlushWritesNothingElse(t *testing.T) {
	w := writtenFrom(t, 16, 1, 512)
	w.disk = marked(20)
	for range 60 {
		w.append(sized(500))
		w.flush()
	}
	for sector, mark := range map[int64]byte{0: 200, 1: 201, 18: 218, 19: 219} {
		if !bytes.Equal(impl.DiskRead(w.disk, sector), filled(mark)) {
			t.Error("a flush writes to the sector", sector)
		}
	}
}

// TestAnyDiskIsScannedPlainly has disks with frames of several rounds and epochs, whole and broken.
func TestAnyDiskIsScannedPlainly(t *testing.T) {
	r := rand.New(rand.NewSource(56))
	seen := map[int]int{}
	for range 400 {
		sectors := 16 + r.Int63n(4)
		d := impl.NewDisk(sectors + 2 + r.Int63n(2))
		at := 512 + r.Int63n(3*sectors*512)
		if r.Intn(8) == 0 {
			at = greatestLSN - r.Int63n(sectors*512)
		}
		starts := []int64{at}
		epoch := 1 + r.Int63n(3)
		for range r.Intn(40) {
			record := anyLog(r)
			if r.Intn(3) > 0 {
				record = sized(41 + r.Intn(300))
			}
			layAt(d, sectors, at, framed(at, epoch, record))
			at += int64(20 + len(plainEncode(record)))
			starts = append(starts, at)
			if r.Intn(9) == 0 {
				epoch = max(0, epoch+r.Int63n(4)-1)
			}
			if at > greatestLSN {
				break
			}
		}
		for range r.Intn(3) {
			d.Pending = append(d.Pending, impl.SectorWrite{Sector: r.Int63n(sectors + 2), Data: anyBytes(r)})
		}
		for range 12 {
			from := starts[r.Intn(len(starts))] + r.Int63n(8)/7
			most := r.Int63n(7)
			got, want := impl.ScanLog(d, sectors, from, most), plainScan(d, sectors, from, most)
			if !sameScan(got, want) {
				t.Fatal("from", from, "on up to", most, "on", sectors, "sectors: up to", got.End, "and not", want.End)
			}
			seen[min(len(got.Frames), 10)]++
			if got, want := impl.LogLoad(d, sectors, from, most), plainLoad(d, sectors, from, most); !sameTail(got, want) {
				t.Fatal("the log that is loaded at", from, "has the end", got.End, "and", len(got.Tail), "bytes")
			}
		}
	}
	if seen[0] == 0 || seen[1] == 0 || seen[10] == 0 {
		t.Error("the test's own disks have too little in them:", seen)
	}
}
