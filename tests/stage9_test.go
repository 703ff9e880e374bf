package tests

import (
	"math"
	"math/rand"
	"testing"

	"loop.example/s02544/impl"
)

func TestLedgerConstants(t *testing.T) {
	if impl.MaxIds != mostIds || impl.MaxPages != mostPages || impl.Slots != slotsEach || impl.MaxRecord != mostRecord || impl.PageRoom != pageRoom {
		t.Error("the constants that chapter 9 leans on")
	}
	if impl.MaxFrames != 16 || impl.MaxLogSectors != 800 || impl.MaxFrame != 4131 || impl.MaxLSN != greatestLSN || impl.SectorSize != sectorSize {
		t.Error("the constants of the log that chapter 9 leans on")
	}
}

func TestSizes(t *testing.T) {
	for _, c := range []struct{ pages, log, checkpoint int64 }{
		{math.MinInt64, -1, -1},
		{math.MinInt64 / 9, -1, -1},
		{-1, -1, -1},
		{0, -1, -1},
		{1, 33, 250},
		{2, 42, 260},
		{3, 51, 270},
		{8, 96, 320},
		{15, 159, 390},
		{16, 168, 400},
		{17, -1, -1},
		{1 << 62, -1, -1},
		{math.MaxInt64, -1, -1},
	} {
		if got := impl.MinLog(c.pages); got != c.log {
			t.Error("MinLog of", c.pages, "is", got, "and not", c.log)
		}
		if got := impl.CheckpointSize(c.pages); got != c.checkpoint {
			t.Error("CheckpointSize of", c.pages, "is", got, "and not", c.checkpoint)
		}
	}
}

// TestCheckpointSizeIsTheMostOfACheckpoint has the greatest Tables that there are: all transactions, and all pages dirty.
func TestCheckpointSizeIsTheMostOfACheckpoint(t *testing.T) {
	for pages := int64(1); pages <= mostPages; pages++ {
		tables := impl.LogRecord{Kind: impl.KindTables, NextTxn: greatestTxn}
		for txn := range int64(impl.MaxTxns) {
			tables.Txns = append(tables.Txns, impl.TxnEntry{Txn: txn + 1, State: impl.StateActive, Last: greatestLSN, UndoNext: greatestLSN})
		}
		for page := range pages {
			tables.Dirty = append(tables.Dirty, impl.DirtyEntry{Page: page, RecLSN: greatestLSN})
		}
		if impl.RecordFault(tables) != 0 {
			t.Fatal("the greatest Tables have the fault", impl.RecordFault(tables))
		}
		size := impl.FrameSize(impl.LogRecord{Kind: impl.KindBegin}) + impl.FrameSize(tables)
		if got := impl.CheckpointSize(pages); got < size {
			t.Error("CheckpointSize of", pages, "is", got, "but a checkpoint has", size)
		}
	}
}

func TestGeometryFault(t *testing.T) {
	for _, c := range []struct {
		pages, frames, sectors int64
		want                   int64
	}{
		{1, 3, 33, 0},
		{1, 3, 800, 0},
		{1, 16, 33, 0},
		{16, 3, 168, 0},
		{16, 16, 800, 0},
		{5, 4, 69, 0},
		{0, 3, 33, 1},
		{-1, 3, 33, 1},
		{17, 3, 800, 1},
		{math.MinInt64, 3, 33, 1},
		{math.MaxInt64, 3, 800, 1},
		{1, 2, 33, 2},
		{1, 0, 33, 2},
		{1, -1, 33, 2},
		{1, 17, 33, 2},
		{1, math.MinInt64, 33, 2},
		{1, math.MaxInt64, 33, 2},
		{1, 3, 32, 3},
		{5, 3, 68, 3},
		{16, 3, 167, 3},
		{1, 3, 801, 3},
		{16, 16, 801, 3},
		{1, 3, 0, 3},
		{1, 3, -1, 3},
		{1, 3, math.MinInt64, 3},
		{1, 3, math.MaxInt64, 3},
		{0, 2, 33, 1},
		{17, 17, 800, 1},
		{0, 3, 801, 1},
		{17, 3, 0, 1},
		{1, 2, 32, 2},
		{16, 17, 801, 2},
		{0, 0, 0, 1},
	} {
		g := impl.Geometry{Pages: c.pages, Frames: c.frames, LogSectors: c.sectors}
		if got := impl.GeometryFault(g); got != c.want {
			t.Error("GeometryFault of", g, "is", got, "and not", c.want)
		}
		if got := plainGeometryFault(g); got != c.want {
			t.Error("the test's own answer to", g, "is", got, "and not", c.want)
		}
	}
}

func TestGeometryFaultAtMinLog(t *testing.T) {
	for pages := int64(1); pages <= mostPages; pages++ {
		least := impl.MinLog(pages)
		for _, c := range []struct{ sectors, want int64 }{{least - 1, 3}, {least, 0}, {least + 1, 0}, {800, 0}, {801, 3}} {
			if got := impl.GeometryFault(impl.Geometry{Pages: pages, Frames: 3, LogSectors: c.sectors}); got != c.want {
				t.Error("GeometryFault of", pages, "pages and", c.sectors, "sectors is", got, "and not", c.want)
			}
		}
	}
}

func TestLogFree(t *testing.T) {
	one := impl.Geometry{Pages: 1, Frames: 3, LogSectors: 33}
	many := impl.Geometry{Pages: 16, Frames: 16, LogSectors: 800}
	for _, c := range []struct {
		name                       string
		g                          impl.Geometry
		end, low, imaged, reserved int64
		want                       int64
	}{
		{"a new log", one, 584, 512, 0, 0, 11931},
		{"one that is imaged", one, 584, 512, 1, 0, 11931 + 4131},
		{"one byte reserved", one, 584, 512, 0, 1, 11930},
		{"one byte more in the log", one, 585, 512, 0, 0, 11930},
		{"one byte less in the log", one, 584, 513, 0, 0, 11932},
		{"no bytes in the log", one, 512, 512, 0, 0, 12003},
		{"just nothing left", one, 584, 512, 0, 11931, 0},
		{"one below nothing", one, 584, 512, 0, 11932, -1},
		{"two below nothing", one, 584, 512, 0, 11933, -2},
		{"far below nothing", one, 30000, 512, 0, 0, 11931 - 29416},
		{"the greatest geometry", many, 512, 512, 0, 0, 799*512 - 16*4131 - 400},
		{"the greatest geometry, all imaged", many, 512, 512, 16, 0, 799*512 - 400},
		{"the greatest geometry, half imaged", many, 100000, 512, 8, 1000, 799*512 - 99488 - 8*4131 - 400 - 1000},
		{"more imaged than there are pages", one, 584, 512, 2, 0, 11931 + 2*4131},
		{"many more imaged", one, 584, 512, 1000, 0, 11931 + 1000*4131},
		{"an end ahead of low", one, 512, 584, 0, 0, 11931 + 144},
		{"an end at 0", one, 0, 512, 0, 0, 11931 + 584},
		{"all at 0", one, 0, 0, 0, 0, 12003},
		{"the end at MaxLSN", one, greatestLSN, 0, 0, 0, 12003 - greatestLSN},
		{"low at MaxLSN", one, 0, greatestLSN, 0, 0, 12003 + greatestLSN},
		{"imaged at MaxLSN", one, 0, 0, greatestLSN, 0, 12003 + 4131*greatestLSN},
		{"reserved at MaxLSN", one, 0, 0, 0, greatestLSN, 12003 - greatestLSN},
		{"all at MaxLSN", one, greatestLSN, greatestLSN, greatestLSN, greatestLSN, 12003 + 4130*greatestLSN},
	} {
		if got := impl.LogFree(c.g, c.end, c.low, c.imaged, c.reserved); got != c.want {
			t.Error("LogFree of", c.name, "is", got, "and not", c.want)
		}
		if got := plainLogFree(c.g, c.end, c.low, c.imaged, c.reserved); got != c.want {
			t.Error("the test's own answer to", c.name, "is", got, "and not", c.want)
		}
	}
}

func TestLogFreeOfNumbersThatAreNone(t *testing.T) {
	g := impl.Geometry{Pages: 1, Frames: 3, LogSectors: 33}
	for _, n := range []int64{-1, greatestLSN + 1, math.MinInt64, math.MaxInt64} {
		for at := range 4 {
			numbers := [4]int64{5000, 512, 0, 77}
			numbers[at] = n
			if got := impl.LogFree(g, numbers[0], numbers[1], numbers[2], numbers[3]); got != -1 {
				t.Error("LogFree of", numbers, "is", got)
			}
		}
		if got := impl.LogFree(g, n, n, n, n); got != -1 {
			t.Error("LogFree of", n, "four times is", got)
		}
	}
	for _, bad := range []impl.Geometry{
		{},
		{Pages: 0, Frames: 3, LogSectors: 33},
		{Pages: 17, Frames: 3, LogSectors: 800},
		{Pages: 1, Frames: 2, LogSectors: 33},
		{Pages: 1, Frames: 17, LogSectors: 33},
		{Pages: 1, Frames: 3, LogSectors: 32},
		{Pages: 1, Frames: 3, LogSectors: 801},
		{Pages: math.MaxInt64, Frames: math.MaxInt64, LogSectors: math.MaxInt64},
		{Pages: math.MinInt64, Frames: math.MinInt64, LogSectors: math.MinInt64},
	} {
		if got := impl.LogFree(bad, 584, 512, 0, 0); got != -1 {
			t.Error("LogFree of", bad, "is", got)
		}
	}
}

func TestLogFreeOfAnyNumbers(t *testing.T) {
	r := rand.New(rand.NewSource(91))
	for range 3000 {
		g := impl.Geometry{Pages: r.Int63n(18), Frames: 2 + r.Int63n(16), LogSectors: 30 + r.Int63n(780)}
		if r.Intn(3) > 0 {
			g = impl.Geometry{Pages: 1 + r.Int63n(16), Frames: 3, LogSectors: 168 + r.Int63n(633)}
		}
		n := [4]int64{r.Int63n(1000000), r.Int63n(1000000), r.Int63n(20), r.Int63n(100000)}
		if r.Intn(4) == 0 {
			n[r.Intn(4)] = []int64{-1, 0, greatestLSN, greatestLSN + 1}[r.Intn(4)]
		}
		if got, want := impl.LogFree(g, n[0], n[1], n[2], n[3]), plainLogFree(g, n[0], n[1], n[2], n[3]); got != want {
			t.Fatal("LogFree of", g, n, "is", got, "and not", want)
		}
		if got, want := impl.GeometryFault(g), plainGeometryFault(g); got != want {
			t.Fatal("GeometryFault of", g, "is", got, "and not", want)
		}
	}
}
