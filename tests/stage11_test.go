package tests

import (
	"math"
	"math/rand"
	"slices"
	"testing"

	"loop.example/s02544/impl"
)

func insertBy(txn, prev, page, slot int64) impl.LogRecord {
	return updateBy(txn, prev, page, slot, recordOf("new"))
}

func takenBack(txn, prev, undoNext int64) impl.LogRecord {
	return undoBy(txn, prev, undoNext, 0, 0, impl.PageRecord{})
}

// holdAnalysis also holds the answer against the plain writing of the chapter.
func holdAnalysis(t *testing.T, name string, s impl.Scan, ckpt int64, want impl.Analysis) {
	t.Helper()
	got := impl.Analyze(s, ckpt)
	if !sameAnalysis(got, want) {
		t.Errorf("%s: Analyze is %v, not %v", name, got, want)
	}
	if plain := plainAnalyze(s, ckpt); !sameAnalysis(plain, want) {
		t.Errorf("%s: the plain writing is %v, not %v", name, plain, want)
	}
}

func holdCode(t *testing.T, name string, s impl.Scan, ckpt int64, code int64) {
	t.Helper()
	holdAnalysis(t, name, s, ckpt, impl.Analysis{Code: code})
}

func TestAnalyzeWithoutCheckpoint(t *testing.T) {
	begin, tables, insert := at(512, beginning()), at(545, tablesOf(1, nil)), at(600, insertBy(1, 0, 0, 0))
	cases := []struct {
		name   string
		ckpt   int64
		frames []impl.LogFrame
	}{
		{"no frames", 512, nil},
		{"no frames at 0", 0, nil},
		{"a Begin one behind", 513, []impl.LogFrame{begin, tables}},
		{"a Begin one ahead", 511, []impl.LogFrame{begin, tables}},
		{"no Begin at all", 600, []impl.LogFrame{begin, tables, insert}},
		{"the least number", math.MinInt64, []impl.LogFrame{begin, tables}},
		{"the greatest number", math.MaxInt64, []impl.LogFrame{begin, tables}},
		{"a Begin as the last frame", 512, []impl.LogFrame{begin}},
		{"a Begin as the last frame behind another checkpoint", 600, []impl.LogFrame{begin, tables, at(600, beginning())}},
		{"another frame behind the Begin", 512, []impl.LogFrame{begin, insert}},
		{"a frame between Begin and Tables", 512, []impl.LogFrame{begin, insert, at(700, tablesOf(1, nil))}},
		{"a Begin behind the Begin", 512, []impl.LogFrame{begin, at(545, beginning()), at(600, tablesOf(1, nil))}},
		{"Tables at the place", 545, []impl.LogFrame{begin, tables, at(600, tablesOf(1, nil))}},
		{"another frame than a Begin at the place", 512, []impl.LogFrame{at(512, insertBy(1, 0, 0, 0)), tables}},
		{"Tables ahead of the Begin", 545, []impl.LogFrame{at(512, tablesOf(1, nil)), at(545, beginning())}},
		{"no checkpoint and frames that fall", 512, []impl.LogFrame{begin, insert, at(599, insertBy(2, 0, 0, 0))}},
		{"no checkpoint and a faulty record", 512, []impl.LogFrame{begin, at(545, insertBy(0, 0, 0, 0))}},
		{"no checkpoint and an LSN that is none", 512, []impl.LogFrame{at(-1, insertBy(1, 0, 0, 0))}},
	}
	for _, c := range cases {
		holdCode(t, c.name, impl.Scan{Frames: c.frames, End: 2000}, c.ckpt, 1)
	}
}

func TestAnalyzeOfFramesThatAreNotInOrder(t *testing.T) {
	begin, tables := at(1000, beginning()), at(1033, tablesOf(1, nil))
	image := imageOf(impl.PageNew(2))
	faulty := insertBy(1, 0, 16, 0)
	cases := []struct {
		name   string
		ckpt   int64
		frames []impl.LogFrame
	}{
		{"one LSN twice", 1000, []impl.LogFrame{begin, tables, at(1100, image), at(1100, image)}},
		{"frames that fall", 1000, []impl.LogFrame{begin, tables, at(1100, image), at(1099, image)}},
		{"one LSN twice ahead of the checkpoint", 1000, []impl.LogFrame{at(600, image), at(600, image), begin, tables}},
		{"frames that fall ahead of the checkpoint", 1000, []impl.LogFrame{at(700, image), at(600, image), begin, tables}},
		{"a frame ahead that is at the checkpoint", 1000, []impl.LogFrame{at(1000, image), begin, tables}},
		{"two Begins at the checkpoint", 1000, []impl.LogFrame{begin, begin, tables}},
		{"Tables that fall", 1000, []impl.LogFrame{begin, at(999, tablesOf(1, nil))}},
		{"Tables at the place of the Begin", 1000, []impl.LogFrame{begin, at(1000, tablesOf(1, nil))}},
		{"frames that fall among those left out", 1000, []impl.LogFrame{begin, tables, at(1100, beginning()), at(1100, beginning())}},
		{"the place ahead of the first", 1000, []impl.LogFrame{at(511, image), begin, tables}},
		{"the place 0", 1000, []impl.LogFrame{at(0, image), begin, tables}},
		{"a negative place", 1000, []impl.LogFrame{at(math.MinInt64, image), begin, tables}},
		{"a checkpoint ahead of the first place", 511, []impl.LogFrame{at(511, beginning()), at(545, tablesOf(1, nil))}},
		{"a place behind the greatest", 1000, []impl.LogFrame{begin, tables, at(greatestLSN+1, image)}},
		{"the greatest number", 1000, []impl.LogFrame{begin, tables, at(math.MaxInt64, image)}},
		{"a faulty record", 1000, []impl.LogFrame{begin, tables, at(1100, faulty)}},
		{"a faulty record ahead of the checkpoint", 1000, []impl.LogFrame{at(600, faulty), begin, tables}},
		{"a Begin with a field", 1000, []impl.LogFrame{at(1000, impl.LogRecord{Kind: 6, Txn: 1}), tables}},
		{"Tables with a fault", 1000, []impl.LogFrame{begin, at(1033, tablesOf(0, nil))}},
		{"a faulty Begin among those left out", 1000, []impl.LogFrame{begin, tables, at(1100, impl.LogRecord{Kind: 6, Prev: 5})}},
		{"faulty Tables among those left out", 1000, []impl.LogFrame{begin, tables, at(1100, beginning()), at(1133, tablesOf(0, nil))}},
		{"a record of no kind", 1000, []impl.LogFrame{begin, tables, at(1100, impl.LogRecord{})}},
		{"a record of a kind too many", 1000, []impl.LogFrame{begin, tables, at(1100, impl.LogRecord{Kind: 9})}},
		{"a record of a negative kind", 1000, []impl.LogFrame{begin, tables, at(1100, impl.LogRecord{Kind: math.MinInt64})}},
	}
	for _, c := range cases {
		holdCode(t, c.name, impl.Scan{Frames: c.frames, End: 2000}, c.ckpt, 2)
	}
	ends := []impl.LogFrame{at(512, beginning()), at(greatestLSN, tablesOf(3, nil))}
	holdAnalysis(t, "the least and the greatest place", impl.Scan{Frames: ends, End: 9}, 512, impl.Analysis{Frames: 2, End: 9, NextTxn: 3})
}

func TestAnalyzeOfTransactionsThatDoNotFit(t *testing.T) {
	insert := insertBy(1, 0, 0, 0)
	cases := []struct {
		name    string
		records []impl.LogRecord
	}{
		{"a Commit without entry", []impl.LogRecord{commitBy(1, 0)}},
		{"an Abort without entry", []impl.LogRecord{abortBy(1, 0)}},
		{"an End without entry", []impl.LogRecord{endBy(1, 0)}},
		{"a Commit of another transaction", []impl.LogRecord{insert, commitBy(2, 600)}},
		{"an End behind the End", []impl.LogRecord{insert, endBy(1, 600), endBy(1, 700)}},
		{"a Commit behind the End", []impl.LogRecord{insert, endBy(1, 600), commitBy(1, 700)}},
		{"a first Update with a Prev", []impl.LogRecord{insertBy(1, 1, 0, 0)}},
		{"a first Update with the Prev of the checkpoint", []impl.LogRecord{insertBy(1, 545, 0, 0)}},
		{"a first Undo with a Prev", []impl.LogRecord{takenBack(1, 545, 0)}},
		{"an Update whose Prev is 0", []impl.LogRecord{insert, insertBy(1, 0, 0, 1)}},
		{"an Update whose Prev is one less", []impl.LogRecord{insert, insertBy(1, 599, 0, 1)}},
		{"an Update whose Prev is one more", []impl.LogRecord{insert, insertBy(1, 601, 0, 1)}},
		{"an Update whose Prev is the one ahead of the last", []impl.LogRecord{insert, insertBy(1, 600, 0, 1), insertBy(1, 600, 0, 2)}},
		{"an Update whose Prev is another's", []impl.LogRecord{insert, insertBy(2, 0, 0, 1), insertBy(1, 700, 0, 2)}},
		{"an Undo whose Prev is not the last", []impl.LogRecord{insert, takenBack(1, 0, 0)}},
		{"a Commit whose Prev is not the last", []impl.LogRecord{insert, commitBy(1, 0)}},
		{"an Abort whose Prev is not the last", []impl.LogRecord{insert, abortBy(1, 0)}},
		{"an End whose Prev is not the last", []impl.LogRecord{insert, endBy(1, 0)}},
		{"an End whose Prev is that of the Update, not of the Commit", []impl.LogRecord{insert, commitBy(1, 600), endBy(1, 600)}},
		{"an Undo that leads to itself", []impl.LogRecord{insert, takenBack(1, 600, 700)}},
		{"an Undo that leads on", []impl.LogRecord{insert, takenBack(1, 600, 701)}},
		{"an Undo that leads to the greatest place", []impl.LogRecord{insert, takenBack(1, 600, greatestLSN)}},
		{"a first Undo that leads to itself", []impl.LogRecord{takenBack(1, 0, 600)}},
		{"an entry that begins again with a Prev", []impl.LogRecord{insert, endBy(1, 600), insertBy(1, 700, 0, 1)}},
	}
	for _, c := range cases {
		holdCode(t, c.name, behindCheckpoint(c.records...), 512, 2)
	}
}

func TestAnalyzeOfTooManyTransactions(t *testing.T) {
	var records []impl.LogRecord
	var entries []impl.TxnEntry
	for i := range int64(mostTxns) {
		records = append(records, insertBy(10-i, 0, 3, i))
		entries = append(entriesOf(10-i, 1, 600+100*i, 600+100*i), entries...)
	}
	full := impl.Analysis{Frames: 10, End: 1400, NextTxn: 11, Txns: entries, Dirty: pagesOf(3, 600)}
	holdAnalysis(t, "as many as there may be", behindCheckpoint(records...), 512, full)
	holdCode(t, "one more", behindCheckpoint(append(records, insertBy(11, 0, 3, 9))...), 512, 2)
	holdCode(t, "one more that is an Undo", behindCheckpoint(append(records, takenBack(1, 0, 0))...), 512, 2)
	holdCode(t, "one more that ends at once", behindCheckpoint(append(records, insertBy(11, 0, 3, 9), endBy(11, 1400))...), 512, 2)

	full.Frames, full.End, full.NextTxn = 12, 1600, 12
	full.Txns = append(slices.Clone(entries[:7]), entriesOf(11, 1, 1500, 1500)...)
	instead := append(slices.Clone(records), endBy(10, 600), insertBy(11, 0, 3, 9))
	holdAnalysis(t, "one more behind an End", behindCheckpoint(instead...), 512, full)

	s := behindCheckpoint(insertBy(greatestTxn, 0, 3, 1))
	s.Frames[1].Record = fullTables()
	s.Frames[1].Record.Txns = s.Frames[1].Record.Txns[:7]
	if a := impl.Analyze(s, 512); a.Code != 0 || len(a.Txns) != mostTxns || a.NextTxn != greatestTxn+1 {
		t.Error("seven out of the Tables and one more are", a)
	}
	s.Frames[1].Record = fullTables()
	s.Frames[2].Record.Txn = 1
	holdCode(t, "one more than the Tables have", s, 512, 2)
}

func TestAnalyzeLeavesOutCheckpoints(t *testing.T) {
	insert, begin, tables := insertBy(1, 0, 5, 0), beginning(), tablesOf(7, entriesOf(3, 1, 512, 512), pagesOf(9, 512)...)
	one := entriesOf(1, 1, 600, 600)
	dirty := pagesOf(5, 600)
	cases := []struct {
		name    string
		records []impl.LogRecord
		frames  int64
		end     int64
	}{
		{"none", nil, 3, 700},
		{"a Begin", []impl.LogRecord{begin}, 3, 700},
		{"Tables", []impl.LogRecord{tables}, 3, 700},
		{"a Begin and Tables", []impl.LogRecord{begin, tables}, 3, 700},
		{"Tables and a Begin", []impl.LogRecord{tables, begin}, 3, 700},
		{"several in a row", []impl.LogRecord{begin, begin, tables, begin, tables, tables, begin}, 3, 700},
		{"a frame behind them", []impl.LogRecord{begin, tables, imageOf(impl.PageNew(4))}, 6, 1000},
		{"a frame between them", []impl.LogRecord{begin, tables, imageOf(impl.PageNew(4)), begin, tables}, 6, 1000},
		{"a frame between Begin and Tables", []impl.LogRecord{begin, imageOf(impl.PageNew(4)), tables}, 5, 900},
	}
	for _, c := range cases {
		s := behindCheckpoint(append([]impl.LogRecord{insert}, c.records...)...)
		want := impl.Analysis{Frames: c.frames, End: c.end, NextTxn: 2, Txns: one, Dirty: dirty}
		if c.frames > 3 {
			want.Imaged = []int64{4}
		}
		holdAnalysis(t, c.name, s, 512, want)
		s.End += 33
		if want.Frames == int64(len(s.Frames)) {
			want.End += 33
		}
		holdAnalysis(t, c.name+", and another end", s, 512, want)
	}
}

func TestAnalyzeKeepsItsOwnCheckpoint(t *testing.T) {
	s := behindCheckpoint()
	holdAnalysis(t, "a checkpoint alone", s, 512, impl.Analysis{Frames: 2, End: 600, NextTxn: 1})
	s = behindCheckpoint(beginning(), tablesOf(5, nil), beginning())
	holdAnalysis(t, "behind it others", s, 512, impl.Analysis{Frames: 2, End: 600, NextTxn: 1})
	holdAnalysis(t, "ahead of it another", s, 600, impl.Analysis{Frames: 4, End: 800, NextTxn: 5})
	for _, end := range []int64{math.MinInt64, -1, 0, math.MaxInt64} {
		s = impl.Scan{Frames: behindCheckpoint().Frames, End: end}
		holdAnalysis(t, "any end", s, 512, impl.Analysis{Frames: 2, End: end, NextTxn: 1})
	}
}

func TestAnalyzeBeginsWithTheTables(t *testing.T) {
	tables := tablesOf(40, entriesOf(3, 1, 700, 650, 8, 3, 800, 0, 9, 2, 900, 1), pagesOf(1, 640, 4, 520, 15, 1)...)
	ahead := []impl.LogFrame{at(700, insertBy(3, 0, 7, 0)), at(800, imageOf(impl.PageNew(6))), at(900, commitBy(77, 5))}
	frames := append(ahead, at(1000, beginning()), at(1033, tables))
	want := impl.Analysis{Frames: 5, End: 1500, NextTxn: 40, Txns: tables.Txns, Dirty: tables.Dirty}
	holdAnalysis(t, "the Tables alone", impl.Scan{Frames: frames, End: 1500}, 1000, want)

	frames = append(frames,
		at(1200, insertBy(3, 700, 4, 1)),
		at(1250, insertBy(39, 0, 2, 1)),
		at(1300, endBy(8, 800)),
		at(1350, abortBy(9, 900)),
		at(1400, imageOf(impl.PageNew(6))))
	want = impl.Analysis{Frames: 10, End: 1500, NextTxn: 40, Imaged: []int64{6},
		Txns:  entriesOf(3, 1, 1200, 1200, 9, 3, 1350, 1, 39, 1, 1250, 1250),
		Dirty: pagesOf(1, 640, 2, 1250, 4, 520, 15, 1)}
	holdAnalysis(t, "the Tables and frames", impl.Scan{Frames: frames, End: 1500}, 1000, want)

	frames[5].Record.Prev = 0
	holdCode(t, "a Prev that is not that of the Tables", impl.Scan{Frames: frames, End: 1500}, 1000, 2)
}

func TestAnalyzeOfEntries(t *testing.T) {
	insert := insertBy(6, 0, 0, 0)
	cases := []struct {
		name    string
		records []impl.LogRecord
		next    int64
		entries []impl.TxnEntry
	}{
		{"an Update", []impl.LogRecord{insert}, 7, entriesOf(6, 1, 600, 600)},
		{"two Updates", []impl.LogRecord{insert, insertBy(6, 600, 0, 1)}, 7, entriesOf(6, 1, 700, 700)},
		{"a first Undo", []impl.LogRecord{takenBack(6, 0, 0)}, 7, entriesOf(6, 1, 600, 0)},
		{"a first Undo that leads back by one", []impl.LogRecord{takenBack(6, 0, 599)}, 7, entriesOf(6, 1, 600, 599)},
		{"an Update and an Undo", []impl.LogRecord{insert, takenBack(6, 600, 0)}, 7, entriesOf(6, 1, 700, 0)},
		{"two Updates and an Undo", []impl.LogRecord{insert, insertBy(6, 600, 0, 1), takenBack(6, 700, 600)}, 7, entriesOf(6, 1, 800, 600)},
		{"an Undo between Updates", []impl.LogRecord{insert, takenBack(6, 600, 0), insertBy(6, 700, 0, 1)}, 7, entriesOf(6, 1, 800, 800)},
		{"both in turn", []impl.LogRecord{insert, takenBack(6, 600, 0), insertBy(6, 700, 0, 1), takenBack(6, 800, 700)}, 7, entriesOf(6, 1, 900, 700)},
		{"a committed one", []impl.LogRecord{insert, commitBy(6, 600)}, 7, entriesOf(6, 2, 700, 600)},
		{"an aborting one", []impl.LogRecord{insert, abortBy(6, 600)}, 7, entriesOf(6, 3, 700, 600)},
		{"an aborting one that goes back", []impl.LogRecord{insert, abortBy(6, 600), takenBack(6, 700, 0)}, 7, entriesOf(6, 3, 800, 0)},
		{"a Commit behind an Abort", []impl.LogRecord{insert, abortBy(6, 600), commitBy(6, 700)}, 7, entriesOf(6, 2, 800, 600)},
		{"an Update behind a Commit", []impl.LogRecord{insert, commitBy(6, 600), insertBy(6, 700, 0, 1)}, 7, entriesOf(6, 2, 800, 800)},
		{"one that ended", []impl.LogRecord{insert, endBy(6, 600)}, 7, nil},
		{"one that committed and ended", []impl.LogRecord{insert, commitBy(6, 600), endBy(6, 700)}, 7, nil},
		{"one that ended and begins again", []impl.LogRecord{insert, commitBy(6, 600), endBy(6, 700), insertBy(6, 0, 0, 1)}, 7, entriesOf(6, 1, 900, 900)},
		{"a lesser one behind it", []impl.LogRecord{insert, insertBy(2, 0, 0, 1)}, 7, entriesOf(2, 1, 700, 700, 6, 1, 600, 600)},
		{"a greater one behind it", []impl.LogRecord{insert, insertBy(9, 0, 0, 1)}, 10, entriesOf(6, 1, 600, 600, 9, 1, 700, 700)},
		{"the greatest one", []impl.LogRecord{insertBy(greatestTxn, 0, 0, 1)}, greatestTxn + 1, entriesOf(greatestTxn, 1, 600, 600)},
		{"a greater one that ended", []impl.LogRecord{insert, insertBy(9, 0, 0, 1), endBy(9, 700)}, 10, entriesOf(6, 1, 600, 600)},
	}
	for _, c := range cases {
		s := behindCheckpoint(c.records...)
		want := impl.Analysis{Frames: int64(len(s.Frames)), End: s.End, NextTxn: c.next, Txns: c.entries, Dirty: pagesOf(0, 600)}
		holdAnalysis(t, c.name, s, 512, want)
	}
}

// TestAnalyzeOfEntriesOfTheTables has transactions that the Tables know and NextTxn does not.
func TestAnalyzeOfEntriesOfTheTables(t *testing.T) {
	s := behindCheckpoint()
	s.Frames[1].Record = tablesOf(2, entriesOf(5, 1, 520, 0, 7, 3, 530, 0))
	holdAnalysis(t, "no frames", s, 512, impl.Analysis{Frames: 2, End: 600, NextTxn: 2, Txns: entriesOf(5, 1, 520, 0, 7, 3, 530, 0)})
	records := map[string]impl.LogRecord{"a Commit": commitBy(5, 520), "an Abort": abortBy(5, 520)}
	for name, r := range records {
		s = behindCheckpoint(r)
		s.Frames[1].Record = tablesOf(2, entriesOf(5, 1, 520, 0))
		holdAnalysis(t, name, s, 512, impl.Analysis{Frames: 3, End: 700, NextTxn: 6, Txns: entriesOf(5, r.Kind-1, 600, 0)})
	}
	s = behindCheckpoint(endBy(5, 520))
	s.Frames[1].Record = tablesOf(2, entriesOf(5, 1, 520, 0))
	holdAnalysis(t, "an End", s, 512, impl.Analysis{Frames: 3, End: 700, NextTxn: 6})
}

func TestAnalyzeOfPages(t *testing.T) {
	s := behindCheckpoint(
		insertBy(1, 0, 9, 0),
		insertBy(1, 600, 2, 0),
		imageOf(impl.PageNew(12)),
		insertBy(1, 700, 9, 1),
		undoBy(1, 900, 700, 15, 0, impl.PageRecord{}),
		imageOf(impl.PageNew(3)),
		undoBy(1, 1000, 700, 2, 0, recordOf("b")),
		imageOf(impl.PageNew(12)),
		insertBy(1, 1200, 4, 0))
	s.Frames[1].Record = tablesOf(1, nil, pagesOf(4, 77, 7, 512)...)
	want := impl.Analysis{Frames: 11, End: 1500, NextTxn: 2, Imaged: []int64{3, 12},
		Txns:  entriesOf(1, 1, 1400, 1400),
		Dirty: pagesOf(2, 700, 4, 77, 7, 512, 9, 600, 15, 1000)}
	holdAnalysis(t, "pages", s, 512, want)

	frames := []impl.LogFrame{at(512, imageOf(impl.PageNew(1))), at(5000, imageOf(impl.PageNew(2))), at(10000, beginning()), at(10033, tablesOf(1, nil)), at(10200, imageOf(impl.PageNew(2)))}
	holdAnalysis(t, "images ahead", impl.Scan{Frames: frames, End: 15000}, 10000, impl.Analysis{Frames: 5, End: 15000, NextTxn: 1, Imaged: []int64{2}})

	var records []impl.LogRecord
	for i := range int64(mostPages) {
		records = append(records, imageOf(impl.PageNew(mostPages-1-i)))
	}
	if a := impl.Analyze(behindCheckpoint(records...), 512); len(a.Imaged) != mostPages || !slices.IsSorted(a.Imaged) {
		t.Error("images of all pages are", a)
	}
}

// TestAnalyzeOfAnyStories also spoils them in one place.
func TestAnalyzeOfAnyStories(t *testing.T) {
	r := rand.New(rand.NewSource(111))
	codes := map[int64]int{}
	for range 300 {
		s := anyStory(r, 1+r.Intn(16), r.Intn(60))
		scan := s.scan
		scan.End += int64(r.Intn(2))
		if r.Intn(3) > 0 {
			spoilFrame(r, scan.Frames)
		}
		ckpt := int64(512)
		if r.Intn(9) == 0 {
			ckpt = scan.Frames[r.Intn(len(scan.Frames))].LSN
		}
		got := impl.Analyze(scan, ckpt)
		if !sameAnalysis(got, plainAnalyze(scan, ckpt)) {
			t.Fatal("a story is told as", got, "not as", plainAnalyze(scan, ckpt))
		}
		codes[got.Code]++
	}
	if codes[0] < 30 || codes[1] < 5 || codes[2] < 30 {
		t.Error("the test's own stories have the codes", codes)
	}
}

func TestAnalyzeOfAStoryAsItWas(t *testing.T) {
	r := rand.New(rand.NewSource(112))
	for range 200 {
		s := anyStory(r, 1+r.Intn(16), r.Intn(80))
		a := impl.Analyze(s.scan, 512)
		if a.Code != 0 || len(a.Txns) != len(s.open) || a.NextTxn != s.next {
			t.Fatal("a story is told as", a)
		}
		for i, txn := range s.txns() {
			if a.Txns[i].Txn != txn || a.Txns[i].State != s.open[txn].state || a.Txns[i].Last != s.open[txn].last {
				t.Fatal("the transaction", txn, "is told as", a.Txns[i])
			}
		}
	}
}

// spoilFrame changes one number of one frame.
func spoilFrame(r *rand.Rand, frames []impl.LogFrame) {
	f := &frames[r.Intn(len(frames))]
	fields := []*int64{&f.LSN, &f.Record.Txn, &f.Record.Prev, &f.Record.Page, &f.Record.UndoNext, &f.Record.Kind, &f.Record.NextTxn}
	field := fields[r.Intn(len(fields))]
	values := []int64{*field + 1, *field - 1, 0, 1, 2, 6, 7, frames[r.Intn(len(frames))].LSN, -1, math.MaxInt64, math.MinInt64}
	*field = values[r.Intn(len(values))]
}
