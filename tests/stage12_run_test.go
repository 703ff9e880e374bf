package tests

import (
	"math/rand"
	"slices"
	"testing"

	"loop.example/s02544/impl"
)

// TestAnyScriptIsDoneAsTheChapterSays is P15 and P16: a plain map allows all
// answers, no restart is refused, and all is done as a plain engine does it.
func TestAnyScriptIsDoneAsTheChapterSays(t *testing.T) {
	r := rand.New(rand.NewSource(121))
	met := map[[2]int64]int{}
	evicted, torn := 0, 0
	for range 300 {
		g := anyGeometry(r)
		m := anyScript(r, g, 20+r.Intn(370))
		got := impl.RunEngine(g, impl.Format(g), m.steps)
		for i, a := range m.answers {
			if i >= len(got.Answers) || !sameAnswer(a, got.Answers[i]) {
				t.Fatal("step", i, "of the kind", m.steps[i].Kind, "is not answered", a)
			}
			met[[2]int64{m.steps[i].Kind, a.Code}]++
		}
		if !sameReport(got, m.e.report(m.answers)) {
			t.Fatal("the report in the end is not what the chapter says")
		}
		if why := mapAllows(g, m.steps, got.Answers); why != "" {
			t.Fatal(why)
		}
		evicted += m.e.evicted
		torn += m.e.torn
	}
	if evicted < 100 || torn < 50 {
		t.Error("the scripts are too tame: pages written back for others", evicted, "pages torn", torn)
	}
	askMet(t, met)
}

// askMet asks that each kind of step was answered in each way that it has.
func askMet(t *testing.T, met map[[2]int64]int) {
	ways := map[int64][]int64{
		1: {0, codeDown, codeTxns}, 2: {0, codeDown, codeTxn, codeBig, codeSpace, codeLog},
		3: {0, codeDown, codeTxn, codeBig, codeId, codeConflict, codeAbsent, codeSpace, codeLog},
		4: {0, codeDown, codeTxn, codeId, codeConflict, codeAbsent, codeLog}, 5: {0, codeDown, codeTxn, codeId, codeConflict, codeAbsent},
		6: {0, codeDown, codeTxn}, 7: {0, codeDown, codeTxn}, 8: {0, codeDown, codeLog}, 9: {0, codeDown, codeUp}, 10: {0}, 11: {0},
	}
	for kind, codes := range ways {
		for _, code := range codes {
			if met[[2]int64{kind, code}] == 0 {
				t.Error("the kind", kind, "was never answered", code)
			}
		}
	}
}

// crashedDisk is what an engine left behind at some time, with nothing pending.
func crashedDisk(r *rand.Rand, g impl.Geometry) impl.Disk {
	m := newScriptMaker(r, g)
	m.cutting = 2
	if r.Intn(3) > 0 {
		m.fill()
	}
	for range 20 + r.Intn(120) {
		m.goOn()
	}
	// Some changes of one that does not end, on the disk by another one's commit.
	m.do(cuts(-1))
	if !m.e.up {
		m.do(restarts())
	}
	txn := m.do(begins()).Txn
	for range 6 {
		m.do(updates(txn, m.id(), m.bytes()))
	}
	if r.Intn(2) == 0 {
		m.do(commits(m.txn()))
	}
	m.do(cuts(int64(r.Intn(30))))
	for range 10 {
		m.goOn()
	}
	m.do(crashes(anyKeep(r, len(m.e.disk.Pending))...))
	return impl.RunEngine(g, impl.Format(g), m.steps).Disk
}

// TestARestartThatIsCutAtEachOperation is P19.
func TestARestartThatIsCutAtEachOperation(t *testing.T) {
	r := rand.New(rand.NewSource(130))
	undone := 0
	for range 25 {
		g := anyGeometry(r)
		d := crashedDisk(r, g)
		whole := impl.RunEngine(g, d, script(restarts(), crashes(), restarts(), crashes(keepAll(99)...), restarts()))
		records := whole.Answers[0].Records
		sameBehind(t, whole, records, 0, 2, 4)
		if whole.Answers[0].Used > 6 {
			undone++
		}
		for n := range whole.Answers[0].Used {
			for _, keep := range [][]int64{nil, keepAll(99), anyKeep(r, 40)} {
				cut := impl.RunEngine(g, d, script(cuts(n), restarts(), crashes(keep...), restarts(), crashes(), restarts()))
				if a := cut.Answers[1]; !sameAnswer(a, impl.Answer{Code: codeDown, Used: n}) {
					t.Fatal("a restart that was cut at", n, "is answered", a)
				}
				sameBehind(t, cut, records, 3, 5)
			}
			sameBehind(t, impl.RunEngine(g, d, script(cuts(n), restarts(), restarts())), records, 2)
		}
	}
	if undone < 10 {
		t.Error("the restarts had too little to do")
	}
}

// sameBehind asks for restarts that are OK with these records.
func sameBehind(t *testing.T, r impl.Report, records []impl.HeapRecord, places ...int) {
	t.Helper()
	for _, i := range places {
		if a := r.Answers[i]; a.Code != 0 || !sameRecords(a.Records, records) {
			t.Fatal("the restart at step", i, "is answered", a.Code, "with other records")
		}
	}
}

// TestARestartThatIsCutAgainAndAgain is P19 with many cuts in a row.
func TestARestartThatIsCutAgainAndAgain(t *testing.T) {
	r := rand.New(rand.NewSource(131))
	for range 60 {
		g := anyGeometry(r)
		d := crashedDisk(r, g)
		whole := impl.RunEngine(g, d, script(restarts()))
		records := whole.Answers[0].Records
		sameBehind(t, whole, records, 0)
		for range 3 {
			var steps []impl.Step
			for range 1 + r.Intn(12) {
				steps = append(steps, cuts(r.Int63n(whole.Answers[0].Used+1)), restarts())
				if r.Intn(4) > 0 {
					steps = append(steps, crashes(anyKeep(r, 40)...))
				}
			}
			steps = script(steps, cuts(-1), crashes(), restarts(), crashes(), restarts())
			got := impl.RunEngine(g, d, steps)
			for i, a := range got.Answers {
				if steps[i].Kind == 9 && a.Code == 0 {
					sameBehind(t, got, records, i)
				} else if steps[i].Kind == 9 && a.Code != codeDown && a.Code != codeUp {
					t.Fatal("a restart is answered", a.Code)
				}
			}
			if lastOf(got).Code != 0 || got.Answers[len(steps)-3].Code != 0 {
				t.Fatal("the last restarts are answered", codesOf(got))
			}
			// The log is as free as it was: cuts have taken nothing of it for good.
			if got.Free != whole.Free {
				t.Fatal("behind the cuts there are", got.Free, "bytes and not", whole.Free)
			}
		}
	}
}

// TestACommitThatWasCutIsWholeOrNot cuts a commit of changes in several pages at each operation.
func TestACommitThatWasCutIsWholeOrNot(t *testing.T) {
	g, open := crowded()
	ahead := script(open, updates(2, 33, "third"), updates(2, 65, "fourth"), inserts(2, "more"))
	whole := impl.RunEngine(g, impl.Format(g), script(ahead, commits(2)))
	if lastOf(whole).Used < 3 {
		t.Fatal("the commit is too short:", lastOf(whole).Used)
	}
	before := lastOf(impl.RunEngine(g, impl.Format(g), script(ahead, crashes(), restarts()))).Records
	after := lastOf(impl.RunEngine(g, impl.Format(g), script(ahead, commits(2), crashes(), restarts()))).Records
	if sameRecords(before, after) || len(before) != 15 || len(after) != 16 {
		t.Fatal("a commit changes", len(before), "records to", len(after))
	}
	met := [2]int{}
	// The writes of pages that went for others are still pending, ahead of those of the commit.
	pending := len(impl.RunEngine(g, impl.Format(g), ahead).Disk.Pending)
	for n := range lastOf(whole).Used {
		for keep := range int64(1) << min(n, 6) {
			kept := slices.Repeat([]int64{keep & 1}, pending)
			for i := range n {
				kept = append(kept, keep>>i&1)
			}
			got := lastOf(impl.RunEngine(g, impl.Format(g), script(ahead, cuts(n), commits(2), crashes(kept...), restarts())))
			switch {
			case got.Code == 0 && sameRecords(got.Records, before):
				met[0]++
			case got.Code == 0 && sameRecords(got.Records, after):
				met[1]++
			default:
				t.Fatal("a commit that was cut at", n, "is neither whole nor nothing:", got.Code)
			}
		}
		// What a reader sees without a crash is whole if all sectors were written.
		got := lastOf(impl.RunEngine(g, impl.Format(g), script(ahead, cuts(n), commits(2), restarts())))
		if all := n == lastOf(whole).Used-1; got.Code != 0 || !sameRecords(got.Records, map[bool][]impl.HeapRecord{false: before, true: after}[all]) {
			t.Fatal("a commit that was cut at", n, "without a crash")
		}
	}
	if met[0] == 0 || met[1] == 0 {
		t.Error("cut commits were", met)
	}
}

// TestTheOrderOfCommits: what is committed last is seen, behind crashes and checkpoints anywhere.
func TestTheOrderOfCommits(t *testing.T) {
	g := smallest(2)
	between := [][]impl.Step{nil, {checkpoints()}, {crashes(), restarts()}, {crashes(1, 0, 1), restarts(), checkpoints()}}
	for _, first := range between {
		for _, second := range between {
			steps := script(restarts(), begins(), inserts(1, "a"), inserts(1, "b"), commits(1), first, begins())
			txn := lastOf(impl.RunEngine(g, impl.Format(g), steps)).Txn
			steps = script(steps, updates(txn, 0, "c"), deletes(txn, 1), commits(txn), second, begins())
			txn = lastOf(impl.RunEngine(g, impl.Format(g), steps)).Txn
			steps = script(steps, inserts(txn, "d"), updates(txn, 0, "e"), commits(txn), begins(), updates(txn+1, 0, "f"), crashes(), restarts())
			got := impl.RunEngine(g, impl.Format(g), steps)
			want := []impl.HeapRecord{{Id: 0, Data: []byte("e")}, {Id: 1, Data: []byte("d")}}
			if lastOf(got).Code != 0 || !sameRecords(lastOf(got).Records, want) {
				t.Error("the records in the end are", lastOf(got).Records, codesOf(got))
			}
		}
	}
}
