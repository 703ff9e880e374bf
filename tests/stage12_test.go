package tests

import (
	"math"
	"slices"
	"strings"
	"testing"

	"loop.example/s02544/impl"
)

const (
	mostIO      = 1000000
	mostPending = 8192
)

// plainStepFault has the named fields of each kind as letters.
func plainStepFault(s impl.Step) int64 {
	named := map[int64]string{1: "", 2: "TD", 3: "TID", 4: "TI", 5: "TI", 6: "T", 7: "T", 8: "", 9: "", 10: "K", 11: "C"}
	fields, known := named[s.Kind]
	if !known {
		return 1
	}
	set := map[string]bool{"T": s.Txn != 0, "I": s.Id != 0, "C": s.Count != 0, "D": len(s.Data) > 0, "K": len(s.Keep) > 0}
	for field, is := range set {
		if is && !strings.Contains(fields, field) {
			return 2
		}
	}
	if s.Count < -1 || s.Count > mostIO {
		return 3
	}
	if len(s.Keep) > mostPending {
		return 4
	}
	return 0
}

func TestStepFaultOfEachField(t *testing.T) {
	kinds := []int64{math.MinInt64, -1, 0, 1, 2, 3, 4, 5, 6, 7, 8, 9, 10, 11, 12, 13, 1 << 40, math.MaxInt64}
	for _, kind := range kinds {
		for _, txn := range []int64{0, 1, -5, math.MaxInt64} {
			for _, id := range []int64{0, 600, math.MinInt64} {
				for _, count := range []int64{0, -2, -1, 1, mostIO, mostIO + 1, math.MinInt64, math.MaxInt64} {
					for _, data := range [][]byte{nil, {}, {0}, make([]byte, 200000)} {
						for _, keep := range [][]int64{nil, {}, {0}, make([]int64, mostPending), make([]int64, mostPending+1)} {
							s := impl.Step{Kind: kind, Txn: txn, Id: id, Count: count, Data: data, Keep: keep}
							if got, want := impl.StepFault(s), plainStepFault(s); got != want {
								t.Fatal("a step of the kind", kind, txn, id, count, len(data), len(keep), "has the fault", got, "and not", want)
							}
						}
					}
				}
			}
		}
	}
}

func TestStepFaultsByHand(t *testing.T) {
	long := make([]int64, mostPending+1)
	for _, c := range []struct {
		name string
		step impl.Step
		want int64
	}{
		{"no kind", impl.Step{}, 1},
		{"the kind 12", impl.Step{Kind: 12}, 1},
		{"a negative kind", impl.Step{Kind: -1}, 1},
		{"another kind with all fields", impl.Step{Kind: 0, Txn: 1, Id: 1, Count: -9, Data: []byte{1}, Keep: long}, 1},
		{"a begin", begins(), 0},
		{"a begin with a transaction", impl.Step{Kind: 1, Txn: 1}, 2},
		{"an insert with an id", impl.Step{Kind: 2, Txn: 1, Id: 1, Data: []byte{1}}, 2},
		{"an insert of no bytes", impl.Step{Kind: 2, Txn: 1}, 0},
		{"an insert of very many bytes", impl.Step{Kind: 2, Txn: -1, Data: make([]byte, 300000)}, 0},
		{"an update with a count", impl.Step{Kind: 3, Txn: 1, Id: 1, Count: 1, Data: []byte{1}}, 2},
		{"a delete with data", impl.Step{Kind: 4, Txn: 1, Id: 1, Data: []byte{1}}, 2},
		{"a delete of anything", impl.Step{Kind: 4, Txn: math.MinInt64, Id: math.MaxInt64}, 0},
		{"a read with a keep", impl.Step{Kind: 5, Txn: 1, Id: 1, Keep: []int64{0}}, 2},
		{"a commit with an id", impl.Step{Kind: 6, Txn: 1, Id: 1}, 2},
		{"an abort with data", impl.Step{Kind: 7, Txn: 1, Data: []byte{0}}, 2},
		{"a checkpoint with a transaction", impl.Step{Kind: 8, Txn: 1}, 2},
		{"a checkpoint with a count out of its bounds", impl.Step{Kind: 8, Count: -2}, 2},
		{"a restart with a keep that is too long", impl.Step{Kind: 9, Keep: long}, 2},
		{"a crash with a count", impl.Step{Kind: 10, Count: 1}, 2},
		{"a crash with a count and a keep out of their bounds", impl.Step{Kind: 10, Count: -2, Keep: long}, 2},
		{"a crash that keeps the most", impl.Step{Kind: 10, Keep: long[1:]}, 0},
		{"a crash that keeps one more", impl.Step{Kind: 10, Keep: long}, 4},
		{"a cut with a keep", impl.Step{Kind: 11, Count: 1, Keep: []int64{1}}, 2},
		{"a cut with a keep and a count out of their bounds", impl.Step{Kind: 11, Count: mostIO + 1, Keep: long}, 2},
		{"a cut of -2", cuts(-2), 3},
		{"a cut of -1", cuts(-1), 0},
		{"a cut of 0", cuts(0), 0},
		{"a cut of the most", cuts(mostIO), 0},
		{"a cut of one more", cuts(mostIO + 1), 3},
	} {
		if got := impl.StepFault(c.step); got != c.want {
			t.Error(c.name, "has the fault", got, "and not", c.want)
		}
	}
}

func TestRunEngineFaults(t *testing.T) {
	g := smallest(2)
	good := impl.Format(g)
	bigger, smaller := copyOf(good), copyOf(good)
	bigger.Durable = append(bigger.Durable, filled(0)...)
	smaller.Durable = smaller.Durable[:len(smaller.Durable)-sectorSize]
	tooMany := copyOf(good)
	tooMany.Pending = manyWrites(mostPending+1, 3)
	outside := copyOf(good)
	outside.Pending = []impl.SectorWrite{writeTo(impl.DiskSectors(g), 1)}
	disks := []impl.Disk{bigger, smaller, tooMany, outside, impl.Format(smallest(1)), impl.NewDisk(1), {}}
	for _, d := range faultyDisks() {
		disks = append(disks, d.disk)
	}
	full := impl.Step{Kind: impl.StInsert, Txn: 1, Data: make([]byte, 50000)}
	most := []impl.Step{full, full}
	more := []impl.Step{full, restarts(), full, updates(1, 1, "x")}
	wrong := [][]impl.Step{
		slices.Repeat([]impl.Step{cuts(-1)}, mostSteps+1),
		make([]impl.Step, mostSteps+1),
		{restarts(), {Kind: 12}},
		{{Kind: 1, Id: 1}, restarts()},
		{restarts(), cuts(-2), restarts()},
		{crashes(make([]int64, mostPending+1)...)},
		append(slices.Clone(more), impl.Step{}),
		slices.Repeat([]impl.Step{full}, mostSteps+1),
	}
	for _, w := range faultyGeometries() {
		for _, d := range append([]impl.Disk{good}, disks...) {
			for _, s := range append([][]impl.Step{nil, more}, wrong...) {
				if r := impl.RunEngine(w, d, s); !isZeroReport(r, 1) {
					t.Fatal("a faulty geometry", w, "has the fault", r.Fault)
				}
			}
		}
	}
	for i, d := range disks {
		for _, s := range append([][]impl.Step{nil, {restarts()}, more}, wrong...) {
			if r := impl.RunEngine(g, d, s); !isZeroReport(r, 2) {
				t.Fatal("the disk", i, "has the fault", r.Fault)
			}
		}
	}
	for i, s := range wrong {
		if r := impl.RunEngine(g, good, s); !isZeroReport(r, 3) {
			t.Error("the steps", i, "have the fault", r.Fault)
		}
	}
	if r := impl.RunEngine(g, good, more); !isZeroReport(r, 4) {
		t.Error("a byte too many has the fault", r.Fault)
	}
	if r := impl.RunEngine(g, good, most); r.Fault != 0 || !slices.Equal(codesOf(r), []int64{1, 1}) {
		t.Error("the most bytes have the fault", r.Fault, codesOf(r))
	}
	r := impl.RunEngine(g, good, slices.Repeat([]impl.Step{cuts(-1)}, mostSteps))
	if r.Fault != 0 || len(r.Answers) != mostSteps || r.Up || !sameDisk(r.Disk, good) {
		t.Error("the most steps have the fault", r.Fault)
	}
}

func TestRunEngineWithoutSteps(t *testing.T) {
	for _, g := range goodGeometries() {
		d := impl.Format(g)
		d.Pending = []impl.SectorWrite{writeTo(3, 7), writeTo(0, 8), writeTo(3, 9)}
		if r := impl.RunEngine(g, d, nil); !sameReport(r, impl.Report{Disk: d}) {
			t.Fatal("no steps at all have the fault", r.Fault, r.Up)
		}
	}
}

func TestRestartBound(t *testing.T) {
	for _, g := range goodGeometries() {
		if got, want := impl.RestartBound(g), 600*g.LogSectors+100*g.Pages+100; got != want {
			t.Error("the bound of", g, "is", got, "and not", want)
		}
	}
	for _, c := range []struct {
		g    impl.Geometry
		want int64
	}{
		{impl.Geometry{Pages: 1, Frames: 3, LogSectors: 33}, 20000},
		{impl.Geometry{Pages: 16, Frames: 16, LogSectors: 800}, 481700},
	} {
		if got := impl.RestartBound(c.g); got != c.want {
			t.Error("the bound of", c.g, "is", got)
		}
	}
	for _, g := range faultyGeometries() {
		if got := impl.RestartBound(g); got != -1 {
			t.Error("the bound of the faulty", g, "is", got)
		}
	}
}

// TestARestartOfAFormattedDisk is P12, for each geometry.
func TestARestartOfAFormattedDisk(t *testing.T) {
	for _, g := range goodGeometries() {
		r := impl.RunEngine(g, impl.Format(g), []impl.Step{restarts()})
		free := g.LogSectors*sectorSize - sectorSize - 72 - g.Pages*imageFrame - 240 - 10*g.Pages
		want := impl.Report{Answers: []impl.Answer{{Used: 6}}, Disk: r.Disk, Up: true, Room: slices.Repeat([]int64{pageRoom}, int(g.Pages)), Free: free}
		if !sameReport(r, want) {
			t.Error("a restart of a new disk of", g, "is", codesOf(r), r.Up, r.Room, r.Free, "and not free", free)
		}
		if h := impl.Heap(r.Disk, g); !h.Good || len(h.Records) != 0 || len(r.Disk.Pending) != 0 {
			t.Error("the heap behind a restart of", g, h)
		}
		m := impl.PickMaster(r.Disk)
		if m.Slot != 0 || m.Master != (impl.Master{Seq: 3, Epoch: 2, Ckpt: 584, Low: 584}) {
			t.Error("the master behind a restart of", g, "is", m)
		}
	}
}

// TestTheExample is the script of chapter 14, step by step.
func TestTheExample(t *testing.T) {
	g := smallest(1)
	steps := script(restarts(), begins(), inserts(1, "one"), begins(), inserts(2, "two"), reads(1, 0), updates(1, 1, "x"), commits(1), updates(2, 1, "twice"), crashes(), restarts(), reads(1, 0))
	r := impl.RunEngine(g, impl.Format(g), steps)
	want := []impl.Answer{
		{Used: 6}, {Txn: 1}, {}, {Txn: 2}, {Id: 1}, {Data: []byte("one")}, {Code: codeConflict}, {Used: 2}, {}, {},
		{Used: 24, Records: []impl.HeapRecord{{Id: 0, Data: []byte("one")}}}, {Code: codeTxn},
	}
	for i, a := range want {
		if !sameAnswer(r.Answers[i], a) {
			t.Error("step", i, "is answered", r.Answers[i], "and not", a)
		}
	}
	if !r.Up || r.Free != 11931 || !slices.Equal(r.Room, []int64{3945}) {
		t.Error("in the end", r.Up, r.Free, r.Room)
	}
}
