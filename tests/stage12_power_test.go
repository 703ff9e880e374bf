package tests

import (
	"math/rand"
	"slices"
	"testing"

	"loop.example/s02544/impl"
)

// crowded has four pages with records of three transactions that have ended, and
// three frames; behind it one more transaction stays open with changes in two pages.
func crowded() (impl.Geometry, []impl.Step) {
	g := impl.Geometry{Pages: 4, Frames: 3, LogSectors: 100}
	steps := script(restarts(), begins())
	for i := range 15 {
		steps = append(steps, inserts(1, textOf(950, byte('a'+i))))
	}
	return g, script(steps, commits(1), begins(), updates(2, 1, "short"), updates(2, 97, "shorter"))
}

type poweredStep struct {
	name  string
	ahead []impl.Step
	step  impl.Step
	used  int64
}

// poweredSteps have each kind of step that does disk operations, and how many of
// them where that is easily counted (0 elsewhere).
func poweredSteps() []poweredStep {
	_, open := crowded()
	return []poweredStep{
		{"the first restart", nil, restarts(), 6},
		// An image and two Updates in 13 sectors of the log, a sync, and the page.
		{"a read that writes a page back", open, reads(2, 33), 22},
		{"a change that writes a page back", open, updates(2, 33, "x"), 22},
		{"a delete that writes a page back", open, deletes(2, 33), 22},
		{"a commit", open, commits(2), 0},
		{"a commit of little", script(open, commits(2), begins(), updates(3, 1, "x")), commits(3), 2},
		{"an abort that writes a page back", script(open, reads(2, 33), reads(2, 65)), aborts(2), 0},
		{"a checkpoint with an open transaction", open, checkpoints(), 0},
		{"a checkpoint with none", script(open, commits(2)), checkpoints(), 0},
		{"a restart behind a crash", script(open, reads(2, 33), reads(2, 65), crashes()), restarts(), 0},
		{"a restart behind a crash that lost nothing", script(open, reads(2, 33), reads(2, 65), crashes(keepAll(200)...)), restarts(), 0},
	}
}

// TestACutAtEachOperation asks for the answer, for what was done and what was not,
// and for what the machine is then.
func TestACutAtEachOperation(t *testing.T) {
	g, _ := crowded()
	for _, c := range poweredSteps() {
		whole := impl.RunEngine(g, impl.Format(g), script(c.ahead, c.step))
		used := lastOf(whole).Used
		if lastOf(whole).Code != 0 || used == 0 || !whole.Up {
			t.Fatal(c.name, "is answered", lastOf(whole).Code, "with", used, "operations")
		}
		if c.used != 0 && used != c.used {
			t.Error(c.name, "does", used, "operations and not", c.used)
		}
		for n := range used {
			steps := script(c.ahead, cuts(n), c.step)
			r := impl.RunEngine(g, impl.Format(g), steps)
			if !sameAnswer(lastOf(r), impl.Answer{Code: codeDown, Used: n}) || r.Up {
				t.Fatal(c.name, "cut at", n, "is answered", lastOf(r), r.Up)
			}
			if len(r.Locks)+len(r.Holds)+len(r.Room) != 0 || r.Free != 0 {
				t.Fatal(c.name, "cut at", n, "leaves something in memory")
			}
			if !sameReport(r, plainRun(g, impl.Format(g), steps)) {
				t.Fatal(c.name, "cut at", n, "leaves another disk than it should")
			}
			more := impl.RunEngine(g, impl.Format(g), script(steps, restarts()))
			if lastOf(more).Code != 0 || !more.Up {
				t.Fatal(c.name, "cut at", n, "is not over:", lastOf(more).Code)
			}
		}
		r := impl.RunEngine(g, impl.Format(g), script(c.ahead, cuts(used), c.step))
		if !sameAnswer(lastOf(r), lastOf(whole)) || !r.Up || !sameDisk(r.Disk, whole.Disk) {
			t.Error(c.name, "with so many operations as it needs is answered", lastOf(r).Code)
		}
		r = impl.RunEngine(g, impl.Format(g), script(c.ahead, cuts(used), c.step, checkpoints()))
		if !sameAnswer(lastOf(r), impl.Answer{Code: codeDown}) || r.Up {
			t.Error(c.name, "and one more than the power allows is answered", lastOf(r))
		}
	}
}

func TestACutOfTheDiskItself(t *testing.T) {
	// A commit writes one sector of the log and syncs.
	g := smallest(1)
	steps := script(restarts(), begins(), inserts(1, "a"))
	ahead := impl.RunEngine(g, impl.Format(g), steps).Disk
	none := impl.RunEngine(g, impl.Format(g), script(steps, cuts(0), commits(1))).Disk
	one := impl.RunEngine(g, impl.Format(g), script(steps, cuts(1), commits(1))).Disk
	both := impl.RunEngine(g, impl.Format(g), script(steps, cuts(2), commits(1))).Disk
	if !sameDisk(none, ahead) || len(one.Pending) != 1 || one.Pending[0].Sector != 2 || len(both.Pending) != 0 {
		t.Error("pending ahead of the sync", len(none.Pending), len(one.Pending), len(both.Pending))
	}
	if !sameDisk(impl.DiskSync(one), both) || sameDisk(one, both) {
		t.Error("the sync is all that is left")
	}
	if !sameDisk(impl.DiskCrash(one, nil), impl.DiskCrash(ahead, nil)) {
		t.Error("what is pending may be lost")
	}
}

func TestACutStaysUntilItComesToPass(t *testing.T) {
	g := smallest(1)
	for _, c := range []struct {
		name  string
		steps []impl.Step
		want  []int64
		used  int64
	}{
		{"through a crash and a restart", script(restarts(), cuts(8), begins(), inserts(1, "a"), commits(1), crashes(), restarts()), []int64{0, 0, 0, 0, 0, 0, codeDown}, 6},
		{"through two restarts", script(cuts(7), restarts(), crashes(), restarts()), []int64{0, 0, 0, codeDown}, 1},
		{"through steps without operations", script(restarts(), cuts(0), begins(), inserts(1, "a"), reads(1, 0), updates(1, 0, "b"), deletes(1, 0), aborts(1), begins(), commits(2), crashes(), restarts()), []int64{0, 0, 0, 0, 0, 0, 0, 0, 0, 0, 0, codeDown}, 0},
		{"while the machine is down", script(cuts(0), begins(), crashes(), commits(1), restarts()), []int64{0, codeDown, 0, codeDown, codeDown}, 0},
		{"and is over then", script(cuts(3), restarts(), restarts()), []int64{0, codeDown, 0}, 6},
		{"and is over behind a commit", script(restarts(), begins(), inserts(1, "a"), cuts(1), commits(1), restarts(), checkpoints()), []int64{0, 0, 0, 0, codeDown, 0, 0}, 4},
		{"-1 ends it", script(cuts(0), cuts(-1), restarts()), []int64{0, 0, 0}, 6},
		{"-1 alone", script(cuts(-1), restarts()), []int64{0, 0}, 6},
		{"a second one takes its place", script(cuts(2), cuts(5), restarts()), []int64{0, 0, codeDown}, 5},
		{"a lesser one takes its place", script(cuts(5), cuts(2), restarts()), []int64{0, 0, codeDown}, 2},
		{"a second one counts from there on", script(cuts(8), restarts(), cuts(3), checkpoints()), []int64{0, 0, 0, codeDown}, 3},
		{"the most", script(cuts(mostIO), restarts(), checkpoints()), []int64{0, 0, 0}, 4},
	} {
		r := impl.RunEngine(g, impl.Format(g), c.steps)
		if !slices.Equal(codesOf(r), c.want) || lastOf(r).Used != c.used {
			t.Error("a cut", c.name, "is answered", codesOf(r), lastOf(r).Used, "and not", c.want, c.used)
		}
	}
}

func eachKind() []impl.Step {
	return []impl.Step{begins(), inserts(1, "x"), updates(1, 0, "x"), deletes(1, 0), reads(1, 0), commits(1), aborts(1), checkpoints()}
}

func TestAMachineThatIsDown(t *testing.T) {
	g := smallest(1)
	working := script(restarts(), begins(), inserts(1, "a"))
	for name, ahead := range map[string][]impl.Step{
		"in the beginning":        nil,
		"behind a crash":          script(working, crashes()),
		"behind a cut":            script(working, cuts(1), commits(1)),
		"behind a restart cut":    script(working, crashes(), cuts(4), restarts()),
		"behind crash upon crash": script(working, crashes(1), crashes(), crashes(1, 1)),
	} {
		down := impl.RunEngine(g, impl.Format(g), ahead)
		for _, s := range append(eachKind(), inserts(9, textOf(1001, 'x')), reads(1, -1), updates(0, 99, "")) {
			r := impl.RunEngine(g, impl.Format(g), script(ahead, s))
			if !sameAnswer(lastOf(r), impl.Answer{Code: codeDown}) || r.Up || !sameDisk(r.Disk, down.Disk) {
				t.Error(name, "the kind", s.Kind, "is answered", lastOf(r))
			}
		}
		for _, s := range []impl.Step{crashes(), crashes(1, 0, 1), cuts(5), cuts(-1)} {
			r := impl.RunEngine(g, impl.Format(g), script(ahead, s))
			if !sameAnswer(lastOf(r), impl.Answer{}) || r.Up {
				t.Error(name, "the kind", s.Kind, "is answered", lastOf(r))
			}
		}
		r := impl.RunEngine(g, impl.Format(g), script(ahead, restarts(), begins()))
		if lastOf(r).Code != 0 || !r.Up || len(r.Locks)+len(r.Holds) != 0 {
			t.Error(name, "a restart is answered", codesOf(r))
		}
	}
}

func TestAMachineThatIsUp(t *testing.T) {
	g := smallest(1)
	ahead := script(restarts(), begins(), inserts(1, "a"))
	up := impl.RunEngine(g, impl.Format(g), ahead)
	r := impl.RunEngine(g, impl.Format(g), script(ahead, restarts()))
	if !sameAnswer(lastOf(r), impl.Answer{Code: codeUp}) {
		t.Error("a restart of a machine that is up is answered", lastOf(r))
	}
	r.Answers = up.Answers
	if !sameReport(r, up) {
		t.Error("a restart of a machine that is up changes something")
	}
	r = impl.RunEngine(g, impl.Format(g), script(ahead, cuts(0), restarts(), reads(1, 0)))
	if !slices.Equal(codesOf(r)[3:], []int64{0, codeUp, 0}) || string(lastOf(r).Data) != "a" {
		t.Error("behind a restart of a machine that is up", codesOf(r))
	}
	r = impl.RunEngine(g, impl.Format(g), script(ahead, crashes()))
	if lastOf(r).Code != 0 || !isZeroReport(impl.Report{Up: r.Up, Locks: r.Locks, Holds: r.Holds, Room: r.Room, Free: r.Free}, 0) {
		t.Error("a crash of a machine that is up", lastOf(r))
	}
}

// TestCrashesKeepWhatTheyAreTold has a write-back pending that a crash keeps in part.
func TestCrashesKeepWhatTheyAreTold(t *testing.T) {
	g, open := crowded()
	steps := script(open, reads(2, 33))
	before := impl.RunEngine(g, impl.Format(g), steps).Disk
	if len(before.Pending) != 8 {
		t.Fatal("a page that was written back has", len(before.Pending), "pending writes")
	}
	r := rand.New(rand.NewSource(122))
	for range 40 {
		keep := anyKeep(r, 8)
		crashed := impl.RunEngine(g, impl.Format(g), script(steps, crashes(keep...)))
		if !sameDisk(crashed.Disk, impl.DiskCrash(before, keep)) || lastOf(crashed).Used != 0 {
			t.Fatal("a crash that keeps", keep)
		}
	}
}
