package tests

import (
	"bytes"
	"math"
	"math/rand"
	"slices"
	"sync"
	"testing"

	"loop.example/s02544/impl"
)

// recoverArgument has what the calls of chapter 11 take.
type recoverArgument struct {
	name   string
	scan   impl.Scan
	ckpt   int64
	page   []byte
	number int64
	from   int64
	txns   []impl.TxnEntry
}

// recoverAnswer is the answer of any of them.
type recoverAnswer struct {
	analysis impl.Analysis
	page     impl.PageResult
	plan     impl.UndoPlan
}

func (a recoverArgument) copy() recoverArgument {
	a.scan.Frames, a.page, a.txns = copyFrames(a.scan.Frames), bytes.Clone(a.page), slices.Clone(a.txns)
	return a
}

// roomy has lists that have something behind their ends too.
func (a recoverArgument) roomy() recoverArgument {
	frames := append(copyFrames(a.scan.Frames), at(5000, insertBy(1, 0, 0, 0)), at(6000, beginning()))
	for i := range frames {
		frames[i].Record = roomyLog(frames[i].Record)
	}
	txns := append(slices.Clone(a.txns), entriesOf(90, 1, 700, 700, 91, 1, 700, 700)...)
	a.scan.Frames, a.txns, a.page = frames[:len(a.scan.Frames)], txns[:len(a.txns)], roomy(a.page)
	return a
}

// whole shows what stands behind the ends of the lists too.
func (a recoverArgument) whole() recoverArgument {
	frames := slices.Clone(a.scan.Frames[:cap(a.scan.Frames)])
	for i := range frames {
		frames[i].Record = wholeLog(frames[i].Record)
	}
	a.scan.Frames, a.txns, a.page = frames, a.txns[:cap(a.txns)], a.page[:cap(a.page)]
	return a
}

func (a recoverArgument) same(b recoverArgument) bool {
	return sameScan(a.scan, b.scan) && bytes.Equal(a.page, b.page) && slices.Equal(a.txns, b.txns)
}

func (a recoverArgument) scribble(v byte) {
	frames, txns := a.scan.Frames[:cap(a.scan.Frames)], a.txns[:cap(a.txns)]
	for i := range frames {
		scribbleLog(frames[i].Record, v)
		frames[i] = impl.LogFrame{LSN: int64(v), Epoch: int64(v)}
	}
	for i := range txns {
		txns[i] = impl.TxnEntry{Txn: int64(v)}
	}
	scribble(a.page, v)
}

func (a recoverAnswer) copy() recoverAnswer {
	a.analysis.Txns, a.analysis.Dirty, a.analysis.Imaged = slices.Clone(a.analysis.Txns), slices.Clone(a.analysis.Dirty), slices.Clone(a.analysis.Imaged)
	a.page.Page, a.plan.Steps = bytes.Clone(a.page.Page), slices.Clone(a.plan.Steps)
	return a
}

func (a recoverAnswer) same(b recoverAnswer) bool {
	return sameAnalysis(a.analysis, b.analysis) && samePage(a.page, b.page) && samePlan(a.plan, b.plan)
}

func (a recoverAnswer) scribble(v byte) {
	scribble(a.page.Page, v)
	txns, dirty, imaged := a.analysis.Txns[:cap(a.analysis.Txns)], a.analysis.Dirty[:cap(a.analysis.Dirty)], a.analysis.Imaged[:cap(a.analysis.Imaged)]
	for i := range txns {
		txns[i] = impl.TxnEntry{Txn: int64(v)}
	}
	for i := range dirty {
		dirty[i] = impl.DirtyEntry{Page: int64(v)}
	}
	for i := range imaged {
		imaged[i] = int64(v)
	}
	steps := a.plan.Steps[:cap(a.plan.Steps)]
	for i := range steps {
		steps[i] = impl.UndoStep{Kind: int64(v)}
	}
}

func recoverCalls() map[string]func(a recoverArgument) recoverAnswer {
	return map[string]func(a recoverArgument) recoverAnswer{
		"Analyze": func(a recoverArgument) recoverAnswer {
			return recoverAnswer{analysis: impl.Analyze(a.scan, a.ckpt)}
		},
		"LastImage": func(a recoverArgument) recoverAnswer {
			return recoverAnswer{page: impl.LastImage(a.scan.Frames, a.number)}
		},
		"RedoPage": func(a recoverArgument) recoverAnswer {
			return recoverAnswer{page: impl.RedoPage(a.page, a.number, a.scan.Frames, a.from)}
		},
		"PlanUndo": func(a recoverArgument) recoverAnswer {
			return recoverAnswer{plan: impl.PlanUndo(a.scan.Frames, a.txns)}
		},
	}
}

// plainRecoverCalls are the answers by the plain writing of the chapter.
func plainRecoverCalls(a recoverArgument) map[string]recoverAnswer {
	return map[string]recoverAnswer{
		"Analyze":   {analysis: plainAnalyze(a.scan, a.ckpt)},
		"LastImage": {page: plainLastImage(a.scan.Frames, a.number)},
		"RedoPage":  {page: plainRedo(a.page, a.number, a.scan.Frames, a.from)},
		"PlanUndo":  {plan: plainPlan(a.scan.Frames, a.txns)},
	}
}

func recoverArguments() []recoverArgument {
	scan := behindCheckpoint(
		insertBy(1, 0, 2, 0),
		updateBy(2, 0, 2, 1, longRecord(900, 4)),
		imageOf(fullPage(2)),
		insertBy(1, 600, 3, 0),
		takenBack(2, 700, 0),
		commitBy(3, 540),
		imageOf(fullPage(0)),
		beginning(),
		tablesOf(9, entriesOf(5, 1, 700, 600), pagesOf(2, 600)...))
	scan.Frames[1].Record = tablesOf(4, entriesOf(3, 1, 540, 530, 7, 3, 520, 0), pagesOf(2, 520, 9, 530)...)
	good := recoverArgument{"a good one", scan, 512, plainNewPage(2), 2, 0, entriesOf(1, 1, 900, 900, 2, 2, 1000, 0, 7, 3, 520, 0)}
	list := []recoverArgument{good}
	with := func(name string, change func(a *recoverArgument)) {
		a := good.copy()
		a.name = name
		change(&a)
		list = append(list, a)
	}
	with("another page", func(a *recoverArgument) { a.number, a.page = 3, plainNewPage(3) })
	with("a page that stays", func(a *recoverArgument) { a.from = math.MaxInt64 })
	with("a page of another number", func(a *recoverArgument) { a.page = plainNewPage(3) })
	with("a page without an image", func(a *recoverArgument) { a.number, a.page = 8, plainNewPage(8) })
	with("a checkpoint that is none", func(a *recoverArgument) { a.ckpt = 600 })
	with("a later checkpoint", func(a *recoverArgument) { a.ckpt = 1300 })
	with("frames that fall", func(a *recoverArgument) { a.scan.Frames[5].LSN = 700 })
	with("a faulty record", func(a *recoverArgument) { a.scan.Frames[3].Record.Slot = 32 })
	with("a broken chain", func(a *recoverArgument) { a.txns[0].UndoNext = 599 })
	with("entries that fall", func(a *recoverArgument) { a.txns[1].Txn = 1 })
	with("no frames", func(a *recoverArgument) { a.scan.Frames = nil })
	with("no entries", func(a *recoverArgument) { a.txns = nil })
	with("no page", func(a *recoverArgument) { a.page = nil })
	return append(list, recoverArgument{name: "nothing"})
}

func TestRecoverAgainstThePlainOne(t *testing.T) {
	for i, a := range recoverArguments() {
		want := plainRecoverCalls(a)
		for name, call := range recoverCalls() {
			got := call(a)
			if !got.same(want[name]) {
				t.Error(name, "of", a.name, "is not what the chapter says")
			}
			if i == 0 && got.analysis.Code+got.page.Code+got.plan.Code != 0 {
				t.Error("the test's own good one has a code in", name)
			}
		}
	}
}

func TestRecoverChangesNoArgument(t *testing.T) {
	for _, a := range recoverArguments() {
		for name, call := range recoverCalls() {
			given := a.roomy()
			before := given.whole().copy()
			first := call(given)
			kept := first.copy()
			first.scribble(99)
			if !given.whole().same(before) {
				t.Fatal(name, "of", a.name, "changes an argument or answers its memory")
			}
			if !call(given).same(kept) || !call(a).same(kept) {
				t.Fatal(name, "of", a.name, "answers something else to the same arguments")
			}
		}
	}
}

func TestRecoverOutlivesTheArguments(t *testing.T) {
	for _, a := range recoverArguments() {
		for name, call := range recoverCalls() {
			given := a.copy().roomy()
			answer := call(given)
			kept := answer.copy()
			given.scribble(98)
			call(a).scribble(97)
			if !answer.same(kept) {
				t.Fatal(name, "of", a.name, "keeps memory of an argument or answers the same memory twice")
			}
		}
	}
}

func TestRecoverHangsOnTheArgumentsAlone(t *testing.T) {
	arguments := recoverArguments()
	for name, call := range recoverCalls() {
		var want []recoverAnswer
		for _, a := range arguments {
			want = append(want, call(a))
		}
		for i := len(arguments) - 1; i >= 0; i-- {
			if !call(arguments[i]).same(want[i]) {
				t.Fatal(name, "of", arguments[i].name, "answers something else behind other calls")
			}
		}
	}
}

func TestRecoverAtTheSameTime(t *testing.T) {
	calls, arguments := recoverCalls(), recoverArguments()
	want := map[string][]recoverAnswer{}
	for name, call := range calls {
		for _, a := range arguments {
			want[name] = append(want[name], call(a))
		}
	}
	var all sync.WaitGroup
	var wrong [8]int64
	for i := range wrong {
		all.Go(func() {
			for name, call := range calls {
				for k, a := range arguments {
					if !call(a).same(want[name][k]) {
						wrong[i]++
					}
				}
			}
		})
	}
	all.Wait()
	if wrong != [8]int64{} {
		t.Error("calls that are made at the same time")
	}
}

func TestAnyArgumentsOfRecoveryAreAnswered(t *testing.T) {
	r := rand.New(rand.NewSource(119))
	numbers := []int64{math.MinInt64, math.MinInt64 + 1, -2, -1, 0, 1, 2, 3, 5, 6, 7, 8, 9, 31, 32, 511, 512, 545, 600, 700, greatestLSN, greatestLSN + 1, math.MaxInt64 - 1, math.MaxInt64}
	any := func() int64 { return numbers[r.Intn(len(numbers))] }
	pages := [][]byte{nil, plainNewPage(0), plainNewPage(1), fullPage(2), make([]byte, pageEnd), make([]byte, 7), laidPage(math.MaxUint32, 5, pageEnd)}
	anyData := func() impl.PageRecord {
		return impl.PageRecord{Used: r.Intn(3) > 0, Data: someBytes(r, anyLength(r)*r.Intn(2)+r.Intn(2))}
	}
	for range 3000 {
		a := recoverArgument{ckpt: any(), page: pages[r.Intn(len(pages))], number: any(), from: any(), scan: impl.Scan{End: any()}}
		for range r.Intn(6) {
			record := impl.LogRecord{Kind: any(), Txn: any(), Prev: any(), Page: any(), Slot: any(), Before: anyData(), After: anyData(), UndoNext: any(), NextTxn: any(), Image: pages[r.Intn(len(pages))]}
			if r.Intn(2) == 0 {
				record = anyLog(r)
			}
			a.scan.Frames = append(a.scan.Frames, at(any(), record))
		}
		for range r.Intn(4) {
			a.txns = append(a.txns, impl.TxnEntry{Txn: any(), State: any(), Last: any(), UndoNext: any()})
		}
		if len(a.page) == pageEnd && r.Intn(2) == 0 {
			a.number = ownOf(a.page)
		}
		want := plainRecoverCalls(a)
		for name, call := range recoverCalls() {
			if got := call(a); !got.same(want[name]) {
				t.Fatal(name, "of", a.scan.Frames, a.txns, a.ckpt, "is not what the chapter says")
			}
		}
	}
}
