package tests

import (
	"math"
	"math/rand"
	"slices"
	"testing"

	"loop.example/s02544/impl"
)

// twoSides has two transactions side by side: 1 has ended and left the records 0,
// 1 and 2; of 2 and 3 each has changed one and read another.
func twoSides() []impl.Step {
	return script(restarts(), begins(), inserts(1, "zero"), inserts(1, "one"), inserts(1, "two"), inserts(1, "three"), commits(1),
		begins(), begins(), updates(2, 0, "mine"), reads(2, 1), updates(3, 2, "yours"), reads(3, 1), deletes(2, 3))
}

func TestEachAnswerOfEachCall(t *testing.T) {
	g := smallest(1)
	big := textOf(1001, 'b')
	long := textOf(1000, 'l')
	ahead := twoSides()
	for _, c := range []struct {
		name string
		step impl.Step
		want impl.Answer
	}{
		{"a begin", begins(), impl.Answer{Txn: 4}},
		{"an insert", inserts(2, "x"), impl.Answer{Id: 4}},
		{"an insert of no bytes", inserts(2, ""), impl.Answer{Id: 4}},
		{"an insert of the most bytes", inserts(3, long), impl.Answer{Id: 4}},
		{"an insert of a transaction that has ended", inserts(1, "x"), impl.Answer{Code: codeTxn}},
		{"an insert of one that has not begun", inserts(4, "x"), impl.Answer{Code: codeTxn}},
		{"an insert of the transaction 0", inserts(0, "x"), impl.Answer{Code: codeTxn}},
		{"an insert of a negative one", inserts(-2, "x"), impl.Answer{Code: codeTxn}},
		{"a great insert of no transaction", inserts(1, big), impl.Answer{Code: codeTxn}},
		{"an insert of one byte too many", inserts(2, big), impl.Answer{Code: codeBig}},
		{"an update", updates(2, 0, "x"), impl.Answer{}},
		{"an update to no bytes", updates(2, 0, ""), impl.Answer{}},
		{"an update of no transaction", updates(9, 99, big), impl.Answer{Code: codeTxn}},
		{"an update of one byte too many", updates(2, 99, big), impl.Answer{Code: codeBig}},
		{"an update of a great record that another one has", updates(2, 2, big), impl.Answer{Code: codeBig}},
		{"an update of the id -1", updates(2, -1, "x"), impl.Answer{Code: codeId}},
		{"an update behind the last id", updates(2, 32, "x"), impl.Answer{Code: codeId}},
		{"an update of the greatest id", updates(2, math.MaxInt64, "x"), impl.Answer{Code: codeId}},
		{"an update of the least id", updates(2, math.MinInt64, "x"), impl.Answer{Code: codeId}},
		{"an update of what another one changed", updates(2, 2, "x"), impl.Answer{Code: codeConflict}},
		{"an update of what another one reads", updates(2, 1, "x"), impl.Answer{Code: codeConflict}},
		{"an update of what another one deleted", updates(3, 3, "x"), impl.Answer{Code: codeConflict}},
		{"an update of what itself deleted", updates(2, 3, "x"), impl.Answer{Code: codeAbsent}},
		{"an update of what is not there", updates(2, 31, "x"), impl.Answer{Code: codeAbsent}},
		{"a delete", deletes(2, 0), impl.Answer{}},
		{"a delete of no transaction", deletes(1, 99), impl.Answer{Code: codeTxn}},
		{"a delete of the id -1", deletes(2, -1), impl.Answer{Code: codeId}},
		{"a delete behind the last id", deletes(2, 32), impl.Answer{Code: codeId}},
		{"a delete of what another one changed", deletes(2, 2), impl.Answer{Code: codeConflict}},
		{"a delete of what another one reads", deletes(3, 1), impl.Answer{Code: codeConflict}},
		{"a delete of what another one deleted", deletes(3, 3), impl.Answer{Code: codeConflict}},
		{"a delete of what itself deleted", deletes(2, 3), impl.Answer{Code: codeAbsent}},
		{"a delete of what is not there", deletes(2, 30), impl.Answer{Code: codeAbsent}},
		{"a read", reads(2, 1), impl.Answer{Data: []byte("one")}},
		{"a read of one's own writing", reads(2, 0), impl.Answer{Data: []byte("mine")}},
		{"a read of no transaction", reads(1, 99), impl.Answer{Code: codeTxn}},
		{"a read of the id -1", reads(2, -1), impl.Answer{Code: codeId}},
		{"a read behind the last id", reads(2, 32), impl.Answer{Code: codeId}},
		{"a read of what another one changed", reads(3, 0), impl.Answer{Code: codeConflict}},
		{"a read of what another one deleted", reads(3, 3), impl.Answer{Code: codeConflict}},
		{"a read of what itself deleted", reads(2, 3), impl.Answer{Code: codeAbsent}},
		{"a read of what is not there", reads(2, 20), impl.Answer{Code: codeAbsent}},
		// What was logged since the last flush stands in two sectors.
		{"a commit", commits(2), impl.Answer{Used: 3}},
		{"a commit of one that has ended", commits(1), impl.Answer{Code: codeTxn}},
		{"a commit of the transaction 0", commits(0), impl.Answer{Code: codeTxn}},
		{"an abort", aborts(2), impl.Answer{}},
		{"an abort of one that has ended", aborts(1), impl.Answer{Code: codeTxn}},
		{"an abort of a negative one", aborts(math.MinInt64), impl.Answer{Code: codeTxn}},
		{"a checkpoint", checkpoints(), impl.Answer{Used: 5}},
	} {
		steps := script(ahead, c.step)
		r := impl.RunEngine(g, impl.Format(g), steps)
		if !sameAnswer(lastOf(r), c.want) {
			t.Error(c.name, "is answered", lastOf(r), "and not", c.want)
		}
		if !sameReport(r, plainRun(g, impl.Format(g), steps)) {
			t.Error(c.name, "leaves something else than it should")
		}
		refusedLeaves(t, g, ahead, c.step)
	}
}

// refusedLeaves is P17 for one step; it tells whether that was refused.
func refusedLeaves(t *testing.T, g impl.Geometry, ahead []impl.Step, s impl.Step) bool {
	before := impl.RunEngine(g, impl.Format(g), ahead)
	after := impl.RunEngine(g, impl.Format(g), script(ahead, s))
	refused := []int64{codeTxn, codeBig, codeId, codeConflict, codeSpace, codeLog, codeTxns, codeUp}
	a := lastOf(after)
	if !slices.Contains(refused, a.Code) {
		return false
	}
	after.Answers = before.Answers
	if !sameReport(before, after) || !sameAnswer(a, impl.Answer{Code: a.Code}) {
		t.Fatal("the kind", s.Kind, "is refused with", a, "and leaves something else than there was")
	}
	return true
}

func TestRefusedCallsOfAnyScriptLeaveAllAsItIs(t *testing.T) {
	r := rand.New(rand.NewSource(123))
	met := map[int64]int{}
	for range 60 {
		g := anyGeometry(r)
		m := anyScript(r, g, 150)
		looked := 0
		for _, i := range r.Perm(len(m.steps)) {
			if looked < 4 && m.answers[i].Code > codeDown && refusedLeaves(t, g, m.steps[:i], m.steps[i]) {
				met[m.answers[i].Code]++
				looked++
			}
		}
	}
	for _, code := range []int64{codeTxn, codeBig, codeConflict, codeSpace, codeLog} {
		if met[code] == 0 {
			t.Error("no call was refused with", code)
		}
	}
}

func TestTheMostTransactions(t *testing.T) {
	g := smallest(1)
	eight := append([]impl.Step{restarts()}, slices.Repeat([]impl.Step{begins()}, 8)...)
	for _, c := range []struct {
		name string
		rest []impl.Step
		want []impl.Answer
	}{
		{"one more", script(begins()), []impl.Answer{{Code: codeTxns}}},
		{"two more", script(begins(), begins()), []impl.Answer{{Code: codeTxns}, {Code: codeTxns}}},
		{"behind a commit", script(commits(3), begins(), begins()), []impl.Answer{{}, {Txn: 9}, {Code: codeTxns}}},
		{"behind an abort", script(aborts(8), begins(), begins()), []impl.Answer{{}, {Txn: 9}, {Code: codeTxns}}},
		{"behind one that failed", script(commits(9), begins()), []impl.Answer{{Code: codeTxn}, {Code: codeTxns}}},
		{"that read and write", script(inserts(8, "a"), begins(), reads(7, 5), begins()), []impl.Answer{{}, {Code: codeTxns}, {Code: codeAbsent}, {Code: codeTxns}}},
	} {
		r := impl.RunEngine(g, impl.Format(g), script(eight, c.rest))
		for i, a := range c.want {
			if got := r.Answers[len(eight)+i]; !sameAnswer(got, a) {
				t.Error("eight transactions and", c.name, i, "is answered", got, "and not", a)
			}
		}
	}
	for i, a := range impl.RunEngine(g, impl.Format(g), eight).Answers[1:] {
		if !sameAnswer(a, impl.Answer{Txn: int64(i) + 1}) {
			t.Error("the begin", i, "is answered", a)
		}
	}
}

// TestTheNumberOfTheNextTransaction: what logged is not named again, be it behind a crash or a checkpoint.
func TestTheNumberOfTheNextTransaction(t *testing.T) {
	g := smallest(1)
	for _, c := range []struct {
		name  string
		steps []impl.Step
		want  int64
	}{
		{"nothing was logged", script(begins(), begins(), crashes(), restarts()), 1},
		{"nothing was flushed", script(begins(), inserts(1, "a"), crashes(), restarts()), 1},
		{"one was committed", script(begins(), begins(), inserts(2, "a"), commits(2), crashes(), restarts()), 3},
		{"one was flushed by another", script(begins(), begins(), inserts(2, "a"), inserts(1, "a"), commits(1), crashes(), restarts()), 3},
		{"a checkpoint told it", script(begins(), begins(), begins(), checkpoints(), crashes(), restarts()), 4},
		{"no crash at all", script(begins(), commits(1), begins(), aborts(2)), 3},
	} {
		r := impl.RunEngine(g, impl.Format(g), script(restarts(), c.steps, begins()))
		if lastOf(r).Txn != c.want {
			t.Error(c.name, "and the next transaction is", lastOf(r).Txn, "and not", c.want)
		}
	}
}

// lateDisk is one whose last checkpoint names this transaction as the next.
func lateDisk(g impl.Geometry, next int64) impl.Disk {
	d := impl.Format(g)
	begin := framed(512, 1, beginning())
	copy(d.Durable[2*sectorSize:], append(begin, framed(512+int64(len(begin)), 1, tablesOf(next, nil))...))
	return d
}

func TestTheLastTransactionOfAll(t *testing.T) {
	g := smallest(1)
	r := impl.RunEngine(g, lateDisk(g, greatestTxn), script(restarts(), begins(), begins(), inserts(greatestTxn, "last"), commits(greatestTxn), begins(), checkpoints(), crashes(), restarts(), begins()))
	want := []impl.Answer{{}, {Txn: greatestTxn}, {Code: codeTxns}, {}, {}, {Code: codeTxns}, {}, {}, {}, {Code: codeTxns}}
	for i, a := range want {
		got := r.Answers[i]
		got.Used, got.Records = 0, nil
		if !sameAnswer(got, a) {
			t.Error("step", i, "near the last transaction is answered", r.Answers[i], "and not", a)
		}
	}
	if len(r.Answers[8].Records) != 1 || string(r.Answers[8].Records[0].Data) != "last" {
		t.Error("the records of the last transaction", r.Answers[8].Records)
	}
}

func TestLocksOfCalls(t *testing.T) {
	g := smallest(2)
	ahead := script(restarts(), begins(), inserts(1, "a"), inserts(1, "b"), commits(1), begins(), begins())
	for _, c := range []struct {
		name  string
		steps []impl.Step
		want  []impl.Lock
	}{
		{"none", nil, nil},
		{"an insert", script(inserts(2, "x")), []impl.Lock{{Id: 2, Txn: 2, Mode: 2}}},
		{"an update", script(updates(2, 0, "x")), []impl.Lock{{Id: 0, Txn: 2, Mode: 2}}},
		{"a delete", script(deletes(2, 1)), []impl.Lock{{Id: 1, Txn: 2, Mode: 2}}},
		{"two reads", script(reads(3, 1), reads(2, 1)), []impl.Lock{{Id: 1, Txn: 2, Mode: 1}, {Id: 1, Txn: 3, Mode: 1}}},
		{"a read and an update", script(reads(2, 1), updates(2, 1, "x")), []impl.Lock{{Id: 1, Txn: 2, Mode: 2}}},
		{"an update and a read", script(updates(2, 1, "x"), reads(2, 1)), []impl.Lock{{Id: 1, Txn: 2, Mode: 2}}},
		{"a delete and a read", script(deletes(2, 1), reads(2, 1)), []impl.Lock{{Id: 1, Txn: 2, Mode: 2}}},
		{"a read of what is not there", script(reads(2, 63)), []impl.Lock{{Id: 63, Txn: 2, Mode: 1}}},
		{"an update of what is not there", script(updates(2, 9, "x")), []impl.Lock{{Id: 9, Txn: 2, Mode: 2}}},
		{"a delete of what is not there", script(deletes(2, 9)), []impl.Lock{{Id: 9, Txn: 2, Mode: 2}}},
		{"both read what is not there", script(reads(2, 9), reads(3, 9)), []impl.Lock{{Id: 9, Txn: 2, Mode: 1}, {Id: 9, Txn: 3, Mode: 1}}},
		{"a conflict over what is not there", script(deletes(2, 9), reads(3, 9)), []impl.Lock{{Id: 9, Txn: 2, Mode: 2}}},
		{"a conflict with a reader of what is not there", script(reads(2, 9), deletes(3, 9)), []impl.Lock{{Id: 9, Txn: 2, Mode: 1}}},
		{"a commit", script(updates(2, 0, "x"), reads(2, 1), reads(3, 1), reads(2, 8), commits(2)), []impl.Lock{{Id: 1, Txn: 3, Mode: 1}}},
		{"an abort", script(updates(2, 0, "x"), reads(2, 1), reads(3, 1), reads(2, 8), aborts(2)), []impl.Lock{{Id: 1, Txn: 3, Mode: 1}}},
		{"an abort of one that only read", script(reads(2, 1), reads(3, 1), aborts(3)), []impl.Lock{{Id: 1, Txn: 2, Mode: 1}}},
	} {
		if r := impl.RunEngine(g, impl.Format(g), script(ahead, c.steps)); !slices.Equal(r.Locks, c.want) {
			t.Error("the locks behind", c.name, "are", r.Locks, "and not", c.want)
		}
	}
	// An insert goes round the ids that others have locked, be it as absent ones.
	r := impl.RunEngine(g, impl.Format(g), script(ahead, reads(3, 2), deletes(3, 3), reads(2, 4), inserts(2, "x"), inserts(3, "x")))
	if got := r.Answers[len(r.Answers)-2:]; got[0].Id != 4 || got[1].Id != 2 {
		t.Error("inserts beside locks have the ids", got[0].Id, got[1].Id)
	}
}

func TestHoldsAndRoomOfCalls(t *testing.T) {
	g := smallest(1)
	ahead := script(restarts(), begins(), inserts(1, textOf(100, 'a')), inserts(1, textOf(50, 'b')), commits(1), begins(), begins())
	for _, c := range []struct {
		name  string
		steps []impl.Step
		want  []impl.Hold
		room  int64
	}{
		{"none", nil, nil, 3798},
		{"an insert", script(inserts(2, textOf(10, 'c'))), holdsOf(hold(2, 2, 10)), 3788},
		{"a longer record", script(updates(2, 1, textOf(60, 'c'))), holdsOf(hold(1, 2, 60)), 3788},
		{"a shorter record", script(updates(2, 1, textOf(40, 'c'))), holdsOf(hold(1, 2, 50)), 3798},
		{"a record gone", script(deletes(2, 0)), holdsOf(hold(0, 2, 100)), 3798},
		{"longer and shorter", script(updates(3, 0, textOf(300, 'c')), updates(3, 0, "")), holdsOf(hold(0, 3, 300)), 3598},
		{"inserted and gone", script(inserts(3, textOf(20, 'c')), deletes(3, 2)), holdsOf(hold(2, 3, 20)), 3778},
		{"two of them", script(updates(3, 0, ""), updates(2, 1, "")), holdsOf(hold(0, 3, 100), hold(1, 2, 50)), 3798},
		{"a read", script(reads(2, 0)), nil, 3798},
		{"a commit of a shorter record", script(updates(2, 0, "abc"), commits(2)), nil, 3895},
		{"a commit of a record gone", script(deletes(2, 0), updates(3, 1, ""), commits(2)), holdsOf(hold(1, 3, 50)), 3898},
		{"an abort of a longer record", script(updates(2, 0, textOf(900, 'c')), aborts(2)), nil, 3798},
		{"an abort of an insert", script(inserts(2, textOf(900, 'c')), aborts(2)), nil, 3798},
		{"an abort of a record gone", script(deletes(2, 0), aborts(2)), nil, 3798},
	} {
		r := impl.RunEngine(g, impl.Format(g), script(ahead, c.steps))
		if !slices.Equal(r.Holds, c.want) || !slices.Equal(r.Room, []int64{c.room}) {
			t.Error("holds and room behind", c.name, "are", r.Holds, r.Room, "and not", c.want, c.room)
		}
	}
}

// TestEndsOfOneThatLoggedNothing: they do not touch the log.
func TestEndsOfOneThatLoggedNothing(t *testing.T) {
	g := smallest(1)
	ahead := script(restarts(), begins(), inserts(1, "a"), commits(1), begins(), reads(2, 0), deletes(2, 5), updates(2, 0, textOf(1001, 'x')))
	before := impl.RunEngine(g, impl.Format(g), ahead)
	for _, s := range []impl.Step{commits(2), aborts(2)} {
		r := impl.RunEngine(g, impl.Format(g), script(ahead, s))
		if !sameAnswer(lastOf(r), impl.Answer{}) || r.Free != before.Free || !sameDisk(r.Disk, before.Disk) || len(r.Locks) != 0 {
			t.Error("the end of one that logged nothing", lastOf(r), before.Free-r.Free, r.Locks)
		}
		r = impl.RunEngine(g, impl.Format(g), script(ahead, s, s, reads(2, 0), begins()))
		if !slices.Equal(codesOf(r)[len(ahead)+1:], []int64{codeTxn, codeTxn, 0}) || lastOf(r).Txn != 3 {
			t.Error("behind its end it is", codesOf(r))
		}
	}
}

// TestEndsOfOneThatLogged: a commit is on the disk when it is answered, an abort need not be.
func TestEndsOfOneThatLogged(t *testing.T) {
	g := smallest(1)
	ahead := script(restarts(), begins(), inserts(1, "a"), inserts(1, "b"), commits(1), begins(), updates(2, 0, "new"), deletes(2, 1), inserts(2, "c"))
	for _, c := range []struct {
		name string
		rest []impl.Step
		want []string
	}{
		{"a commit", script(commits(2)), []string{"new", "", "c"}},
		{"an abort", script(aborts(2)), []string{"a", "b", ""}},
		{"a commit and a crash", script(commits(2), crashes(), restarts()), []string{"new", "", "c"}},
		{"an abort and a crash", script(aborts(2), crashes(), restarts()), []string{"a", "b", ""}},
		{"a crash", script(crashes(), restarts()), []string{"a", "b", ""}},
		{"a crash behind a flush", script(begins(), inserts(3, "d"), commits(3), begins(), deletes(4, 3), commits(4), crashes(), restarts()), []string{"a", "b", ""}},
		{"an abort, flushed by another one, and a crash", script(aborts(2), begins(), updates(3, 0, "a"), commits(3), crashes(), restarts()), []string{"a", "b", ""}},
	} {
		steps := script(ahead, c.rest, begins())
		txn := lastOf(impl.RunEngine(g, impl.Format(g), steps)).Txn
		r := impl.RunEngine(g, impl.Format(g), script(steps, reads(txn, 0), reads(txn, 1), reads(txn, 2)))
		for i, text := range c.want {
			a := r.Answers[len(steps)+i]
			if string(a.Data) != text || (a.Code == codeAbsent) != (text == "") {
				t.Error("behind", c.name, "the record", i, "is", a, "and not", text)
			}
		}
	}
}
