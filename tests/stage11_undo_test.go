package tests

import (
	"math"
	"math/rand"
	"slices"
	"testing"

	"loop.example/s02544/impl"
)

// stepsOf takes kind, transaction and LSN of each step.
func stepsOf(numbers ...int64) []impl.UndoStep {
	var list []impl.UndoStep
	for n := range slices.Chunk(numbers, 3) {
		list = append(list, impl.UndoStep{Kind: n[0], Txn: n[1], LSN: n[2]})
	}
	return list
}

// holdPlan also holds the answer against the plain writing of the chapter.
func holdPlan(t *testing.T, name string, frames []impl.LogFrame, txns []impl.TxnEntry, want impl.UndoPlan) {
	t.Helper()
	if got := impl.PlanUndo(frames, txns); !samePlan(got, want) {
		t.Errorf("%s: PlanUndo is %v, not %v", name, got, want)
	}
	if plain := plainPlan(frames, txns); !samePlan(plain, want) {
		t.Errorf("%s: the plain writing is %v, not %v", name, plain, want)
	}
}

func TestPlanUndoOfWrongLists(t *testing.T) {
	frames := behindCheckpoint(insertBy(1, 0, 0, 0), insertBy(1, 600, 0, 1), insertBy(2, 0, 0, 2)).Frames
	fine := entriesOf(1, 1, 700, 700, 2, 1, 800, 800)
	twice := append(slices.Clone(frames), frames[4])
	falling := append(slices.Clone(frames), at(799, insertBy(3, 0, 0, 0)))
	nine := entriesOf(1, 2, 0, 0, 2, 2, 0, 0, 3, 2, 0, 0, 4, 2, 0, 0, 5, 2, 0, 0, 6, 2, 0, 0, 7, 2, 0, 0, 8, 2, 0, 0, 9, 2, 0, 0)
	cases := []struct {
		name   string
		frames []impl.LogFrame
		txns   []impl.TxnEntry
	}{
		{"one LSN twice", twice, fine},
		{"frames that fall", falling, fine},
		{"frames that fall at the front", append([]impl.LogFrame{at(513, beginning())}, frames...), fine},
		{"frames that fall, and no entries", falling, nil},
		{"one entry twice", frames, entriesOf(1, 1, 700, 700, 1, 1, 700, 700)},
		{"entries that fall", frames, entriesOf(2, 1, 800, 800, 1, 1, 700, 700)},
		{"entries that fall and have nothing to undo", nil, entriesOf(2, 1, 0, 0, 1, 1, 0, 0)},
		{"one entry more than there may be", nil, nine},
		{"a negative place", frames, entriesOf(1, 1, 700, -1, 2, 1, 800, 800)},
		{"a negative place of a committed one", frames, entriesOf(1, 2, 700, -1)},
		{"the least place", frames, entriesOf(1, 1, 700, 700, 2, 1, 800, math.MinInt64)},
		{"a negative place behind one without a frame", frames, entriesOf(1, 1, 650, 650, 2, 1, 800, -1)},
		{"a negative place ahead of one without a frame", frames, entriesOf(1, 1, 650, -1, 2, 1, 801, 801)},
		{"frames that fall, and no frame at the place", falling, entriesOf(1, 1, 650, 650)},
		{"entries that fall, and no frame at the place", frames, entriesOf(2, 1, 650, 650, 1, 1, 700, 700)},
		{"one entry more, and no frame at the place", nil, append(slices.Clone(nine[:8]), entriesOf(9, 1, 650, 650)...)},
	}
	for _, c := range cases {
		holdPlan(t, c.name, c.frames, c.txns, impl.UndoPlan{Code: 2})
	}
	holdPlan(t, "as many entries as there may be", nil, nine[:8], impl.UndoPlan{Steps: stepsOf(5, 1, 0, 5, 2, 0, 5, 3, 0, 5, 4, 0, 5, 5, 0, 5, 6, 0, 5, 7, 0, 5, 8, 0)})
}

func TestPlanUndoOfBrokenChains(t *testing.T) {
	insert := insertBy(1, 0, 0, 0)
	cases := []struct {
		name    string
		records []impl.LogRecord
		txns    []impl.TxnEntry
	}{
		{"no frames", nil, entriesOf(1, 1, 600, 600)},
		{"no frame at the place", []impl.LogRecord{insert}, entriesOf(1, 1, 600, 599)},
		{"no frame one behind", []impl.LogRecord{insert}, entriesOf(1, 1, 600, 601)},
		{"the greatest place", []impl.LogRecord{insert}, entriesOf(1, 1, 600, math.MaxInt64)},
		{"a Commit there", []impl.LogRecord{insert, commitBy(1, 600)}, entriesOf(1, 1, 700, 700)},
		{"an Abort there", []impl.LogRecord{insert, abortBy(1, 600)}, entriesOf(1, 3, 700, 700)},
		{"an End there", []impl.LogRecord{insert, endBy(1, 600)}, entriesOf(1, 1, 700, 700)},
		{"a Begin there", []impl.LogRecord{insert}, entriesOf(1, 1, 600, 512)},
		{"Tables there", []impl.LogRecord{insert}, entriesOf(1, 1, 600, 545)},
		{"an Image there", []impl.LogRecord{{Kind: 8, Txn: 1}}, entriesOf(1, 1, 600, 600)},
		{"no kind there", []impl.LogRecord{{Txn: 1}}, entriesOf(1, 1, 600, 600)},
		{"another transaction's Update", []impl.LogRecord{insertBy(2, 0, 0, 0)}, entriesOf(1, 1, 600, 600)},
		{"another transaction's Undo", []impl.LogRecord{takenBack(2, 0, 0)}, entriesOf(1, 1, 600, 600)},
		{"an Update whose Prev is its place", []impl.LogRecord{insertBy(1, 600, 0, 0)}, entriesOf(1, 1, 600, 600)},
		{"an Update whose Prev is greater", []impl.LogRecord{insertBy(1, 700, 0, 0), insertBy(1, 0, 0, 1)}, entriesOf(1, 1, 600, 600)},
		{"an Update whose Prev is the greatest number", []impl.LogRecord{insertBy(1, math.MaxInt64, 0, 0)}, entriesOf(1, 1, 600, 600)},
		{"an Update whose Prev is negative", []impl.LogRecord{insertBy(1, -1, 0, 0)}, entriesOf(1, 1, 600, 600)},
		{"an Update whose Prev has no frame", []impl.LogRecord{insertBy(1, 599, 0, 0)}, entriesOf(1, 1, 600, 600)},
		{"an Undo that leads to itself", []impl.LogRecord{takenBack(1, 0, 600)}, entriesOf(1, 1, 600, 600)},
		{"an Undo that leads on", []impl.LogRecord{takenBack(1, 0, 700), insertBy(1, 0, 0, 1)}, entriesOf(1, 1, 600, 600)},
		{"an Undo that leads to no frame", []impl.LogRecord{takenBack(1, 0, 599)}, entriesOf(1, 1, 600, 600)},
		{"an Undo that leads below 0", []impl.LogRecord{takenBack(1, 0, -5)}, entriesOf(1, 1, 600, 600)},
		{"two entries at one place", []impl.LogRecord{insert}, entriesOf(1, 1, 600, 600, 2, 1, 600, 600)},
		{"two entries at one place of the second", []impl.LogRecord{insertBy(2, 0, 0, 0)}, entriesOf(1, 1, 600, 600, 2, 1, 600, 600)},
		{"a broken one behind a whole one", []impl.LogRecord{insert, insertBy(2, 0, 0, 1)}, entriesOf(1, 1, 600, 599, 2, 1, 700, 700)},
		{"a broken one ahead of a whole one", []impl.LogRecord{insert, insertBy(2, 0, 0, 1)}, entriesOf(1, 1, 600, 600, 2, 1, 700, 701)},
		{"a broken one beside ended ones", []impl.LogRecord{insert}, entriesOf(1, 2, 600, 600, 2, 1, 9, 0, 3, 1, 600, 600)},
	}
	for _, c := range cases {
		holdPlan(t, c.name, behindCheckpoint(c.records...).Frames, c.txns, impl.UndoPlan{Code: 1})
	}
	below := []impl.LogFrame{at(-7, insertBy(1, -9, 0, 0)), at(600, insertBy(1, -7, 0, 1))}
	holdPlan(t, "frames below 0", below, entriesOf(1, 1, 600, 600), impl.UndoPlan{Code: 1})
	below[0].Record.Prev = 0
	holdPlan(t, "a frame below 0 that leads to 0", below, entriesOf(1, 1, 600, 600), impl.UndoPlan{Code: 1})
}

func TestPlanUndoOfWhatHasNothingToUndo(t *testing.T) {
	holdPlan(t, "nothing", nil, nil, impl.UndoPlan{})
	frames := behindCheckpoint(insertBy(1, 0, 0, 0), insertBy(5, 0, 0, 1)).Frames
	holdPlan(t, "no entries", frames, nil, impl.UndoPlan{})
	ends := stepsOf(5, 1, 0, 5, 3, 0, 5, 4, 0)
	holdPlan(t, "only such", frames, entriesOf(1, 2, 600, 600, 3, 1, 9, 0, 4, 3, 9, 0), impl.UndoPlan{Steps: ends})
	holdPlan(t, "a committed one without a frame", nil, entriesOf(6, 2, 9, math.MaxInt64), impl.UndoPlan{Steps: stepsOf(5, 6, 0)})
	among := entriesOf(1, 1, 600, 600, 2, 2, 9, 9, 3, 3, 9, 0, 5, 3, 700, 700, 7, 2, 9, 0)
	steps := stepsOf(5, 2, 0, 5, 3, 0, 5, 7, 0, 2, 5, 700, 5, 5, 0, 2, 1, 600, 5, 1, 0)
	holdPlan(t, "such among others", frames, among, impl.UndoPlan{Steps: steps})
	wrong := entriesOf(math.MinInt64, 2, -5, 3, -1, 77, -5, 0, 0, -1, 0, 0, math.MaxInt64, 0, 0, 0)
	holdPlan(t, "entries with any numbers", frames, wrong, impl.UndoPlan{Steps: stepsOf(5, math.MinInt64, 0, 5, -1, 0, 5, 0, 0, 5, math.MaxInt64, 0)})
	state := entriesOf(1, 99, 600, 600)
	holdPlan(t, "a state that is none", frames, state, impl.UndoPlan{Steps: stepsOf(2, 1, 600, 5, 1, 0)})
}

func TestPlanUndoGoesBack(t *testing.T) {
	cases := []struct {
		name    string
		records []impl.LogRecord
		txns    []impl.TxnEntry
		steps   []impl.UndoStep
	}{
		{"one Update", []impl.LogRecord{insertBy(1, 0, 0, 0)}, entriesOf(1, 1, 600, 600), stepsOf(2, 1, 600, 5, 1, 0)},
		{"three Updates", []impl.LogRecord{insertBy(1, 0, 0, 0), insertBy(1, 600, 0, 1), insertBy(1, 700, 0, 2)},
			entriesOf(1, 3, 800, 800), stepsOf(2, 1, 800, 2, 1, 700, 2, 1, 600, 5, 1, 0)},
		{"from a place in the middle on", []impl.LogRecord{insertBy(1, 0, 0, 0), insertBy(1, 600, 0, 1), insertBy(1, 700, 0, 2)},
			entriesOf(1, 3, 800, 700), stepsOf(2, 1, 700, 2, 1, 600, 5, 1, 0)},
		{"an Undo alone", []impl.LogRecord{takenBack(1, 0, 0)}, entriesOf(1, 1, 600, 600), stepsOf(5, 1, 0)},
		{"an Undo on the way", []impl.LogRecord{insertBy(1, 0, 0, 0), insertBy(1, 600, 0, 1), takenBack(1, 700, 600), insertBy(1, 800, 0, 2)},
			entriesOf(1, 1, 900, 900), stepsOf(2, 1, 900, 2, 1, 600, 5, 1, 0)},
		{"an Undo that gives up all", []impl.LogRecord{insertBy(1, 0, 0, 0), takenBack(1, 600, 0), insertBy(1, 700, 0, 2)},
			entriesOf(1, 1, 800, 800), stepsOf(2, 1, 800, 5, 1, 0)},
		{"two Undos in a row", []impl.LogRecord{insertBy(1, 0, 0, 0), insertBy(1, 600, 0, 1), takenBack(1, 700, 600), takenBack(1, 800, 0)},
			entriesOf(1, 1, 900, 900), stepsOf(5, 1, 0)},
		{"an Undo that leads to an Undo", []impl.LogRecord{insertBy(1, 0, 0, 0), takenBack(1, 600, 0), takenBack(1, 700, 700)},
			entriesOf(1, 1, 800, 800), stepsOf(5, 1, 0)},
		{"two in turn", []impl.LogRecord{insertBy(1, 0, 0, 0), insertBy(2, 0, 0, 1), insertBy(1, 600, 0, 2), insertBy(2, 700, 0, 3)},
			entriesOf(1, 1, 800, 800, 2, 1, 900, 900), stepsOf(2, 2, 900, 2, 1, 800, 2, 2, 700, 5, 2, 0, 2, 1, 600, 5, 1, 0)},
		{"one inside another", []impl.LogRecord{insertBy(2, 0, 0, 0), insertBy(1, 0, 0, 1), insertBy(1, 700, 0, 2), insertBy(2, 600, 0, 3)},
			entriesOf(1, 1, 800, 800, 2, 1, 900, 900), stepsOf(2, 2, 900, 2, 1, 800, 2, 1, 700, 5, 1, 0, 2, 2, 600, 5, 2, 0)},
		{"one that is told of no more", []impl.LogRecord{insertBy(1, 0, 0, 0), insertBy(2, 0, 0, 1), insertBy(3, 0, 0, 2)},
			entriesOf(1, 1, 600, 600, 3, 1, 800, 800), stepsOf(2, 3, 800, 5, 3, 0, 2, 1, 600, 5, 1, 0)},
	}
	for _, c := range cases {
		holdPlan(t, c.name, behindCheckpoint(c.records...).Frames, c.txns, impl.UndoPlan{Steps: c.steps})
	}
	early := []impl.LogFrame{at(1, insertBy(1, 0, 0, 0)), at(math.MaxInt64, insertBy(1, 1, 0, 0))}
	holdPlan(t, "frames at any places", early, entriesOf(1, 1, 5, math.MaxInt64), impl.UndoPlan{Steps: stepsOf(2, 1, math.MaxInt64, 2, 1, 1, 5, 1, 0)})
	faulty := []impl.LogFrame{at(600, impl.LogRecord{Kind: 1, Txn: -3, Page: 99, Slot: -1})}
	holdPlan(t, "a faulty record", faulty, entriesOf(-3, 1, 600, 600), impl.UndoPlan{Steps: stepsOf(2, -3, 600, 5, -3, 0)})
}

// TestPlanUndoUndoesEachUpdateOnce is P14, of many stories.
func TestPlanUndoUndoesEachUpdateOnce(t *testing.T) {
	r := rand.New(rand.NewSource(117))
	most, steps := 0, 0
	for range 400 {
		s := anyStory(r, 1+r.Intn(4), r.Intn(90))
		txns := impl.Analyze(s.scan, 512).Txns
		plan := impl.PlanUndo(s.scan.Frames, txns)
		if plan.Code != 0 || !samePlan(plan, plainPlan(s.scan.Frames, txns)) {
			t.Fatal("the plan of a story is", plan)
		}
		var undone []impl.UndoStep
		ended := map[int64]int{}
		for i, step := range plan.Steps {
			if step.Kind == 2 {
				undone = append(undone, step)
			}
			if step.Kind == 2 && ended[step.Txn] > 0 {
				t.Fatal("the transaction", step.Txn, "is undone behind its end")
			}
			if step.Kind == 5 {
				ended[step.Txn]++
			}
			if step.Kind == 5 && step.LSN != 0 || step.Kind != 5 && step.Kind != 2 {
				t.Fatal("the step", i, "is", step)
			}
		}
		if !slices.Equal(undone, s.toUndo()) {
			t.Fatal("what is undone is", undone, "not", s.toUndo())
		}
		for txn, times := range ended {
			if times != 1 || s.open[txn] == nil {
				t.Fatal("the transaction", txn, "is ended", times, "times")
			}
		}
		if len(ended) != len(s.open) {
			t.Fatal("not all transactions are ended:", ended)
		}
		most, steps = max(most, len(s.open)), steps+len(undone)
	}
	if most != mostTxns || steps < 1000 {
		t.Error("the test's own stories have", most, "transactions at once and undo", steps, "Updates")
	}
}

// TestPlanUndoOfSpoiledStories holds the codes against the plain writing.
func TestPlanUndoOfSpoiledStories(t *testing.T) {
	r := rand.New(rand.NewSource(118))
	codes := map[int64]int{}
	for range 600 {
		s := anyStory(r, 2, r.Intn(40))
		txns := impl.Analyze(s.scan, 512).Txns
		for range 1 + r.Intn(3) {
			spoilFrame(r, s.scan.Frames)
		}
		if len(txns) > 0 && r.Intn(3) == 0 {
			e := &txns[r.Intn(len(txns))]
			field := []*int64{&e.Txn, &e.State, &e.UndoNext}[r.Intn(3)]
			*field = []int64{-1, 0, 1, 2, s.scan.Frames[r.Intn(len(s.scan.Frames))].LSN}[r.Intn(5)]
		}
		got := impl.PlanUndo(s.scan.Frames, txns)
		if !samePlan(got, plainPlan(s.scan.Frames, txns)) {
			t.Fatal("the plan is", got, "not", plainPlan(s.scan.Frames, txns))
		}
		codes[got.Code]++
	}
	if codes[0] < 50 || codes[1] < 50 || codes[2] < 50 {
		t.Error("the test's own stories have the codes", codes)
	}
}
