package tests

import (
	"math/rand"
	"slices"
	"testing"

	"loop.example/s02544/impl"
)

// idsOf are the ids that the inserts were told, -1 where one was refused with ErrSpace.
func idsOf(t *testing.T, r impl.Report, steps []impl.Step) []int64 {
	var list []int64
	for i, s := range steps {
		a := r.Answers[i]
		switch {
		case s.Kind == 2 && a.Code == 0:
			list = append(list, a.Id)
		case s.Kind == 2 && a.Code == codeSpace:
			list = append(list, -1)
		case a.Code != 0:
			t.Fatal("step", i, "is answered", a.Code)
		}
	}
	return list
}

func TestInsertsUntilNoPageHasRoom(t *testing.T) {
	for _, c := range []struct {
		name  string
		g     impl.Geometry
		steps []impl.Step
		want  []int64
	}{
		{"of the most bytes", smallest(2), slices.Repeat(script(inserts(1, textOf(1000, 'a'))), 7), []int64{0, 1, 2, 32, 33, 34, -1}},
		{"of what is left in each page", smallest(2), script(
			slices.Repeat(script(inserts(1, textOf(1000, 'a'))), 6), inserts(1, textOf(949, 'b')), inserts(1, textOf(948, 'b')), inserts(1, textOf(948, 'b')), inserts(1, "c"), inserts(1, "")),
			[]int64{0, 1, 2, 32, 33, 34, -1, 3, 35, -1, 4}},
		{"of no bytes", smallest(1), slices.Repeat(script(inserts(1, "")), 33), append(numbersTo(32), -1)},
		{"into the least page that has room", smallest(2), script(
			inserts(1, textOf(1000, 'a')), inserts(1, textOf(1000, 'a')), inserts(1, textOf(1000, 'a')), inserts(1, textOf(949, 'b')), inserts(1, textOf(948, 'b')), inserts(1, textOf(1, 'c'))),
			[]int64{0, 1, 2, 32, 3, 33}},
		{"beside a delete of its own", smallest(1), script(
			inserts(1, textOf(1000, 'a')), inserts(1, textOf(1000, 'a')), inserts(1, textOf(1000, 'a')), deletes(1, 1), inserts(1, textOf(949, 'b')), inserts(1, textOf(948, 'b'))),
			[]int64{0, 1, 2, -1, 3}},
		{"behind a delete that was committed", smallest(1), script(
			inserts(1, textOf(1000, 'a')), inserts(1, textOf(1000, 'a')), inserts(1, textOf(1000, 'a')), deletes(1, 1), commits(1), begins(), inserts(2, textOf(949, 'b')), inserts(2, textOf(999, 'b')), inserts(2, "")),
			[]int64{0, 1, 2, 1, 3, 4}},
		{"behind a delete that was aborted", smallest(1), script(
			inserts(1, textOf(1000, 'a')), inserts(1, textOf(1000, 'a')), inserts(1, textOf(1000, 'a')), commits(1), begins(), deletes(2, 1), aborts(2), begins(), inserts(3, textOf(949, 'b')), inserts(3, textOf(948, 'b'))),
			[]int64{0, 1, 2, -1, 3}},
		{"behind an insert that was aborted", smallest(1), script(
			inserts(1, textOf(500, 'a')), begins(), inserts(2, textOf(500, 'a')), aborts(1), inserts(2, textOf(7, 'a'))),
			[]int64{0, 1, 0}},
	} {
		steps := script(restarts(), begins(), c.steps)
		r := impl.RunEngine(c.g, impl.Format(c.g), steps)
		if got := idsOf(t, r, steps); !slices.Equal(got, c.want) {
			t.Error("inserts", c.name, "have the ids", got, "and not", c.want)
		}
	}
}

func numbersTo(n int64) []int64 {
	var list []int64
	for i := range n {
		list = append(list, i)
	}
	return list
}

func TestUpdatesUntilThePageIsFull(t *testing.T) {
	g := smallest(1)
	full := script(restarts(), begins(), inserts(1, textOf(1000, 'a')), inserts(1, textOf(1000, 'b')), inserts(1, textOf(1000, 'c')), inserts(1, textOf(900, 'd')), commits(1), begins(), begins())
	for _, c := range []struct {
		name  string
		steps []impl.Step
		want  []int64
	}{
		{"by what is left", script(updates(2, 3, textOf(948, 'x'))), []int64{0}},
		{"by one more", script(updates(2, 3, textOf(949, 'x'))), []int64{codeSpace}},
		{"by all that is left and again", script(updates(2, 3, textOf(948, 'x')), updates(2, 3, textOf(1, 'x')), updates(2, 3, textOf(948, 'y')), updates(2, 3, textOf(949, 'y'))), []int64{0, 0, 0, codeSpace}},
		{"another one grows beside a shrunk one", script(updates(2, 0, ""), updates(3, 3, textOf(948, 'x')), updates(3, 3, textOf(949, 'x'))), []int64{0, 0, codeSpace}},
		{"another one grows behind a commit", script(updates(2, 0, ""), commits(2), updates(3, 3, textOf(1000, 'x'))), []int64{0, 0, 0}},
		{"another one grows behind an abort", script(updates(2, 0, ""), aborts(2), updates(3, 3, textOf(949, 'x'))), []int64{0, 0, codeSpace}},
		{"it comes back to what it was", script(deletes(2, 1), updates(3, 3, textOf(948, 'x')), aborts(2), updates(3, 3, textOf(949, 'x')), commits(3)), []int64{0, 0, 0, codeSpace, 0}},
		{"a lock is not taken with ErrSpace", script(updates(2, 3, textOf(949, 'x')), updates(3, 3, textOf(948, 'x'))), []int64{codeSpace, 0}},
		{"ErrSpace is looked for behind ErrAbsent", script(updates(2, 9, textOf(949, 'x')), updates(3, 9, "")), []int64{codeAbsent, codeConflict}},
	} {
		r := impl.RunEngine(g, impl.Format(g), script(full, c.steps))
		if got := codesOf(r)[len(full):]; !slices.Equal(got, c.want) {
			t.Error("a full page:", c.name, "is answered", got, "and not", c.want)
		}
	}
}

// nearlyFull has little more log left than one change of a long record needs. The
// transaction 1 has logged something, 2 has not, and both may change.
func nearlyFull(g impl.Geometry) []impl.Step {
	steps := script(restarts(), begins(), begins(), inserts(1, textOf(800, 'a')), inserts(1, textOf(300, 'b')), commits(1), begins(), inserts(3, textOf(600, 'c')))
	for {
		more := append(steps, updates(3, 2, textOf(600, 'd')))
		if impl.RunEngine(g, impl.Format(g), more).Free < 1900 {
			return steps
		}
		steps = more
	}
}

// TestTheLogIsFullToTheByte is P22: each change, long and short, of one that has
// logged something and of one that has not, is refused exactly by its sums.
func TestTheLogIsFullToTheByte(t *testing.T) {
	g := smallest(1)
	ahead := nearlyFull(g)
	start := impl.RunEngine(g, impl.Format(g), ahead)
	met := map[[2]int64]int{}
	ask := func(name string, steps []impl.Step, s impl.Step, first bool, before, after int64) {
		free := impl.RunEngine(g, impl.Format(g), steps).Free
		r := impl.RunEngine(g, impl.Format(g), script(steps, s))
		need := needs(first, before, after)
		want := int64(0)
		if free < need {
			want = codeLog
		}
		if lastOf(r).Code != want || lastOf(r).Used != 0 {
			t.Error(name, "with", free, "bytes left, of which it needs", need, "is answered", lastOf(r))
		}
		if left := r.Free; want == 0 && left != free-need || want != 0 && left != free {
			t.Error(name, "leaves", left, "of", free, "and needs", need)
		}
		if free-need >= -1 && free-need <= 0 {
			met[[2]int64{s.Kind, want}]++
		}
	}
	// Filling by n bytes more leaves free - needs(false, 600, n).
	for _, target := range []int64{900, 450, 200, 170} {
		for n := range int64(1001) {
			left := start.Free - needs(false, 600, n)
			if left < target || left > target+1 {
				continue
			}
			steps := script(ahead, updates(3, 2, textOf(int(n), 'e')))
			for length := range int64(1001) {
				for _, first := range []bool{false, true} {
					if over := needs(first, -1, length) - left; over >= -1 && over <= 1 {
						ask("an insert", steps, inserts(map[bool]int64{false: 3, true: 2}[first], textOf(int(length), 'i')), first, -1, length)
					}
					if over := needs(first, 300, length) - left; over >= -1 && over <= 1 {
						ask("an update", steps, updates(map[bool]int64{false: 3, true: 2}[first], 1, textOf(int(length), 'u')), first, 300, length)
					}
				}
			}
		}
	}
	// A delete of 300 bytes needs 689, and 755 as the first one.
	for _, first := range []bool{false, true} {
		for n := range int64(1001) {
			if over := needs(first, 300, -1) - (start.Free - needs(false, 600, n)); over >= -1 && over <= 1 {
				steps := script(ahead, updates(3, 2, textOf(int(n), 'e')))
				ask("a delete", steps, deletes(map[bool]int64{false: 3, true: 2}[first], 1), first, 300, -1)
			}
		}
	}
	for _, kind := range []int64{2, 3, 4} {
		for _, code := range []int64{0, codeLog} {
			if met[[2]int64{kind, code}] == 0 {
				t.Error("the kind", kind, "was not met at the bound with", code, met)
			}
		}
	}
}

func TestErrLogLeavesNoLock(t *testing.T) {
	g := smallest(1)
	ahead := nearlyFull(g)
	long := textOf(1000, 'x')
	full := script(ahead, updates(3, 2, textOf(600, 'e')))
	r := impl.RunEngine(g, impl.Format(g), script(full, updates(2, 1, long), reads(3, 1), inserts(2, long), inserts(2, ""), deletes(2, 0)))
	if got := codesOf(r)[len(full):]; !slices.Equal(got, []int64{codeLog, 0, codeLog, 0, codeLog}) {
		t.Error("a full log is answered", got)
	}
	for _, s := range []impl.Step{updates(2, 1, long), inserts(2, long), deletes(2, 0), updates(3, 0, long)} {
		if !refusedLeaves(t, g, full, s) {
			t.Error("the kind", s.Kind, "is not refused")
		}
	}
}

// TestOneTransactionFillsTheLog changes one record until the log refuses it.
func TestOneTransactionFillsTheLog(t *testing.T) {
	for _, g := range []impl.Geometry{smallest(1), smallest(3), {Pages: 1, Frames: 3, LogSectors: 80}, {Pages: 16, Frames: 16, LogSectors: leastLog(16)}} {
		for _, size := range []int{0, 1, 250, 900} {
			steps := script(restarts(), begins(), inserts(1, textOf(size, 'a')))
			for data := size; len(steps) < mostSteps-60 && data+size*40 < mostStepData; data += size {
				steps = append(steps, updates(1, 0, textOf(size, 'b')))
			}
			r := impl.RunEngine(g, impl.Format(g), steps)
			first := slices.IndexFunc(r.Answers, func(a impl.Answer) bool { return a.Code != 0 })
			if first < 0 && size < 250 {
				continue
			}
			for i, a := range r.Answers[first:] {
				if !sameAnswer(a, impl.Answer{Code: codeLog}) {
					t.Fatal("behind the first change that was refused the change", i, "is answered", a)
				}
			}
			if need := needs(false, int64(size), int64(size)); r.Free < 0 || r.Free >= need {
				t.Error("a change that needs", need, "is refused with", r.Free, "left")
			}
			least := g.LogSectors*sectorSize - sectorSize - g.Pages*imageFrame - 2*(240+10*g.Pages)
			for _, end := range []impl.Step{commits(1), aborts(1)} {
				rest := script(end, checkpoints(), begins(), inserts(2, textOf(size, 'c')), commits(2))
				r := impl.RunEngine(g, impl.Format(g), script(steps, rest))
				if got := codesOf(r)[len(steps):]; !slices.Equal(got, []int64{0, 0, 0, 0, 0}) {
					t.Error("the end of a transaction that filled the log is answered", got)
				}
				if got := impl.RunEngine(g, impl.Format(g), script(steps, end, checkpoints())); got.Free < least {
					t.Error("behind a checkpoint there are", got.Free, "bytes of", least)
				}
			}
			r = impl.RunEngine(g, impl.Format(g), script(steps, crashes(), restarts()))
			if lastOf(r).Code != 0 || len(lastOf(r).Records) != 0 || r.Free < least {
				t.Error("behind a crash of a full log", lastOf(r), r.Free)
			}
		}
	}
}

// TestWhatIsGivenUpFitsAtAllTimes is P11 at this stage: full pages whose
// transactions are all undone, by aborts in any order and by restarts.
func TestWhatIsGivenUpFitsAtAllTimes(t *testing.T) {
	r := rand.New(rand.NewSource(126))
	for range 60 {
		g := impl.Geometry{Pages: 1 + r.Int63n(2), Frames: 3, LogSectors: 200}
		m := newScriptMaker(r, g)
		m.cutting, m.length = 0, func(r *rand.Rand) int { return r.Intn(700) }
		m.fill()
		var open []int64
		for range 4 {
			open = append(open, m.do(begins()).Txn)
		}
		for range 120 {
			txn := open[r.Intn(len(open))]
			switch r.Intn(4) {
			case 0:
				m.do(inserts(txn, m.bytes()))
			case 1:
				m.do(deletes(txn, m.id()))
			default:
				m.do(updates(txn, m.id(), m.bytes()))
			}
		}
		for _, room := range impl.RunEngine(g, impl.Format(g), m.steps).Room {
			if room < 0 {
				t.Fatal("the room left is", room)
			}
		}
		for _, i := range r.Perm(len(open)) {
			if a := m.do(aborts(open[i])); a.Code != 0 {
				t.Fatal("an abort is answered", a.Code)
			}
		}
		got := impl.RunEngine(g, impl.Format(g), m.steps)
		if why := mapAllows(g, m.steps, got.Answers); why != "" {
			t.Fatal(why)
		}
		crashed := script(m.steps[:len(m.steps)-len(open)], crashes(), restarts())
		got = impl.RunEngine(g, impl.Format(g), crashed)
		if why := mapAllows(g, crashed, got.Answers); why != "" {
			t.Fatal(why)
		}
	}
}
