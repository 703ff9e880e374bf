package tests

import (
	"bytes"
	"math"
	"math/rand"
	"slices"
	"sync"
	"testing"

	"loop.example/s02544/impl"
)

// engineArgument is what RunEngine takes.
type engineArgument struct {
	name  string
	g     impl.Geometry
	d     impl.Disk
	steps []impl.Step
}

func engineArguments() []engineArgument {
	r := rand.New(rand.NewSource(132))
	g, open := crowded()
	list := []engineArgument{
		{"no steps", g, impl.Format(g), nil},
		{"a faulty geometry", impl.Geometry{}, impl.Format(g), open},
		{"a faulty disk", g, impl.NewDisk(7), open},
		{"a faulty step", g, impl.Format(g), script(open, impl.Step{})},
		{"an open transaction", g, impl.Format(g), script(open, reads(2, 33), reads(2, 1), updates(2, 65, ""), inserts(2, ""), reads(2, 100))},
		{"a crash", g, impl.Format(g), script(open, reads(2, 33), crashes(1, 0, 1), restarts(), begins(), restarts(), reads(3, 0))},
		{"a cut", g, impl.Format(g), script(open, cuts(3), checkpoints(), restarts(), cuts(12), checkpoints())},
		{"any bytes", g, impl.Disk{Durable: someBytes(r, int(impl.DiskSectors(g)*sectorSize))}, script(restarts(), crashes())},
	}
	for range 6 {
		g := anyGeometry(r)
		m := anyScript(r, g, 80)
		list = append(list, engineArgument{"any script", g, crashedDisk(r, g), m.steps}, engineArgument{"any script on a new disk", g, impl.Format(g), m.steps})
	}
	return list
}

// roomy has something behind the ends of its lists too.
func (a engineArgument) roomy() engineArgument {
	steps := append(copySteps(a.steps), begins(), cuts(5))
	for i, s := range steps {
		steps[i].Data, steps[i].Keep = roomy(s.Data), append(slices.Clone(s.Keep), 7, 7)[:len(s.Keep)]
	}
	d := copyOf(a.d)
	d.Pending = append(d.Pending, writeTo(1, 5), writeTo(2, 5))[:len(d.Pending)]
	d.Durable = roomy(d.Durable)
	for i, w := range d.Pending {
		d.Pending[i].Data = roomy(w.Data)
	}
	return engineArgument{name: a.name, g: a.g, d: d, steps: steps[:len(a.steps)]}
}

func (a engineArgument) same(b engineArgument) bool {
	return sameDisk(a.d, b.d) && sameSteps(a.steps, b.steps)
}

// whole shows what stands behind the ends of the lists too.
func (a engineArgument) whole() engineArgument {
	steps := slices.Clone(a.steps[:cap(a.steps)])
	for i, s := range steps {
		steps[i].Data, steps[i].Keep = s.Data[:cap(s.Data)], s.Keep[:cap(s.Keep)]
	}
	pending := slices.Clone(a.d.Pending[:cap(a.d.Pending)])
	for i, w := range pending {
		pending[i].Data = w.Data[:cap(w.Data)]
	}
	return engineArgument{d: impl.Disk{Durable: a.d.Durable[:cap(a.d.Durable)], Pending: pending}, steps: steps}
}

func (a engineArgument) copy() engineArgument {
	return engineArgument{name: a.name, g: a.g, d: copyOf(a.d), steps: copySteps(a.steps)}
}

func (a engineArgument) scribble(v byte) {
	scribbleDisk(a.d, v)
	for _, s := range a.steps {
		scribble(s.Data, v)
		scribbleNumbers(s.Keep, v)
	}
	for i := range a.steps {
		a.steps[i] = impl.Step{Kind: int64(v)}
	}
}

func scribbleNumbers(list []int64, v byte) {
	list = list[:cap(list)]
	for i := range list {
		list[i] = int64(v)
	}
}

func copyReport(r impl.Report) impl.Report {
	r.Answers = slices.Clone(r.Answers)
	for i, a := range r.Answers {
		r.Answers[i].Data = bytes.Clone(a.Data)
		r.Answers[i].Records = slices.Clone(a.Records)
		for k, h := range a.Records {
			r.Answers[i].Records[k].Data = bytes.Clone(h.Data)
		}
	}
	r.Disk = copyOf(r.Disk)
	r.Locks, r.Holds, r.Room = slices.Clone(r.Locks), slices.Clone(r.Holds), slices.Clone(r.Room)
	return r
}

// reportLists are all lists of bytes of a report, and all others as bytes are not.
func reportLists(r impl.Report) [][]byte {
	list := [][]byte{r.Disk.Durable}
	for _, w := range r.Disk.Pending {
		list = append(list, w.Data)
	}
	for _, a := range r.Answers {
		list = append(list, a.Data)
		for _, h := range a.Records {
			list = append(list, h.Data)
		}
	}
	return list
}

func scribbleReport(r impl.Report, v byte) {
	for _, b := range reportLists(r) {
		scribble(b, v)
	}
	for _, a := range r.Answers {
		for i := range a.Records {
			a.Records[i] = impl.HeapRecord{Id: int64(v)}
		}
	}
	for i := range r.Answers {
		r.Answers[i] = impl.Answer{Code: int64(v)}
	}
	scribbleLocks(r.Locks, int64(v))
	scribbleHolds(r.Holds, int64(v))
	scribbleNumbers(r.Room, v)
	scribbleDisk(r.Disk, v)
}

func TestTheEngineChangesNoArgument(t *testing.T) {
	for _, a := range engineArguments() {
		given := a.roomy()
		kept := given.whole().copy()
		impl.RunEngine(given.g, given.d, given.steps)
		for _, s := range given.steps {
			impl.StepFault(s)
		}
		if !given.whole().same(kept) {
			t.Error("a run of", a.name, "changes an argument")
		}
	}
}

func TestTheEngineOutlivesItsArguments(t *testing.T) {
	for _, a := range engineArguments() {
		given := a.roomy()
		answer := impl.RunEngine(given.g, given.d, given.steps)
		kept := copyReport(answer)
		given.scribble(98)
		scribbleReport(impl.RunEngine(a.g, a.d, a.steps), 97)
		if !sameReport(answer, kept) {
			t.Error("a run of", a.name, "keeps memory of an argument or answers the same memory twice")
		}
	}
}

// TestNoTwoListsOfAReportShareMemory fills each list up to its capacity, and asks all others.
func TestNoTwoListsOfAReportShareMemory(t *testing.T) {
	for _, a := range engineArguments() {
		answer := impl.RunEngine(a.g, a.d, a.steps)
		lists := reportLists(answer)
		for i, b := range lists {
			scribble(b, byte(i))
		}
		for i, b := range lists {
			if slices.ContainsFunc(b, func(x byte) bool { return x != byte(i) }) {
				t.Fatal("two lists of a report of", a.name, "share memory")
			}
		}
		for i, x := range answer.Answers {
			for _, y := range answer.Answers[:i] {
				if len(x.Records) > 0 && len(y.Records) > 0 && &x.Records[0] == &y.Records[0] {
					t.Fatal("two restarts of", a.name, "share their records")
				}
			}
		}
	}
}

func TestTheEngineHangsOnItsArgumentsAlone(t *testing.T) {
	arguments := engineArguments()
	var want []impl.Report
	for _, a := range arguments {
		want = append(want, impl.RunEngine(a.g, a.d, a.steps))
	}
	var all sync.WaitGroup
	var wrong [4]int
	for i := range wrong {
		all.Go(func() {
			for k, a := range slices.Backward(arguments) {
				if !sameReport(impl.RunEngine(a.g, a.d, a.steps), want[k]) {
					wrong[i]++
				}
			}
		})
	}
	all.Wait()
	if wrong != [4]int{} {
		t.Error("the same call twice, or at the same time, has another answer")
	}
}

// TestEmptyListsOfStepsAreNil: the document takes them as one value.
func TestEmptyListsOfStepsAreNil(t *testing.T) {
	g := smallest(1)
	d := impl.Format(g)
	empty := impl.Format(g)
	empty.Pending = []impl.SectorWrite{}
	steps := script(restarts(), begins(), inserts(1, ""), commits(1), crashes(), restarts())
	bare := copySteps(steps)
	for i := range bare {
		if len(bare[i].Data) == 0 {
			bare[i].Data = nil
		}
		bare[i].Keep = nil
		steps[i].Keep = []int64{}
		steps[i].Data = append([]byte{}, steps[i].Data...)
	}
	if !sameReport(impl.RunEngine(g, d, steps), impl.RunEngine(g, empty, bare)) {
		t.Error("an empty list is not what nil is")
	}
	r := impl.RunEngine(g, d, bare)
	if got := lastOf(r).Records; len(got) != 1 || len(got[0].Data) != 0 {
		t.Error("a record of no bytes is", got)
	}
}

// TestAnyStepsAreAnswered has numbers out of all bounds, as far as a step may have them.
func TestAnyStepsAreAnswered(t *testing.T) {
	r := rand.New(rand.NewSource(133))
	numbers := []int64{math.MinInt64, -1, 0, 1, 2, 3, 4, 31, 32, 33, 63, 64, 511, 512, greatestTxn, greatestTxn + 1, 1 << 40, math.MaxInt64}
	any := func() int64 { return numbers[r.Intn(len(numbers))] }
	for range 300 {
		g := smallest(1 + r.Int63n(2))
		var steps []impl.Step
		for range r.Intn(40) {
			s := impl.Step{Kind: 1 + r.Int63n(11)}
			switch s.Kind {
			case 2, 3:
				s.Txn, s.Data = r.Int63n(4), someBytes(r, anyLength(r)+r.Intn(2))
			case 11:
				s.Count = r.Int63n(60) - 1
			case 10:
				s.Keep = []int64{any(), any(), any()}
			case 4, 5, 6, 7:
				s.Txn = []int64{any(), r.Int63n(4)}[r.Intn(2)]
			}
			if s.Kind >= 3 && s.Kind <= 5 {
				s.Id = []int64{any(), r.Int63n(4)}[r.Intn(2)]
			}
			steps = append(steps, s)
		}
		got := impl.RunEngine(g, impl.Format(g), steps)
		if !sameReport(got, plainRun(g, impl.Format(g), steps)) {
			t.Fatal("steps", steps, "are answered", codesOf(got))
		}
		if why := mapAllows(g, steps, got.Answers); why != "" {
			t.Fatal(why)
		}
	}
}
