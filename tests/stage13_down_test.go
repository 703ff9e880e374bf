package tests

import (
	"fmt"
	"testing"

	"loop.example/s02544/impl"
)

func TestWhatIsAllowedWhileItIsDown(t *testing.T) {
	g, start := smallest(1), recs(rec(0, "a"))
	opened := talkOf(cameUp(start...), begun(1), done(updates(1, 0, "b")))
	for name, ahead := range map[string]talk{
		"the beginning":           nil,
		"a cut":                   done(cuts(3)),
		"a crash":                 done(crashes()),
		"two crashes":             talkOf(opened, done(crashes(1)), done(crashes())),
		"a restart that was cut":  failed(restarts(), codeDown),
		"a corrupt restart":       failed(restarts(), codeCorrupt),
		"a crash while it was up": talkOf(opened, done(crashes())),
		"the power":               talkOf(opened, failed(checkpoints(), codeDown)),
		"the power in a read":     talkOf(opened, failed(reads(1, 0), codeDown)),
		"the power and a restart": talkOf(opened, failed(aborts(1), codeDown), failed(restarts(), codeCorrupt), failed(begins(), codeDown)),
	} {
		for _, s := range stepOfEachKind() {
			want, ok := []int64{codeDown}, impl.Answer{}
			switch s.Kind {
			case 9:
				want, ok = []int64{0, codeDown, codeCorrupt}, impl.Answer{Records: start}
			case 10, 11:
				want = []int64{0}
			case 1:
				ok.Txn = 2
			case 2:
				ok.Id = 1
			case 5:
				ok.Data = []byte("a")
			}
			askCodes(t, g, start, []codeCase{{fmt.Sprint("behind ", name, " the kind ", s.Kind), ahead, s, ok, want}})
		}
	}
}

func TestWhatIsAllowedWhileItIsUp(t *testing.T) {
	g, start := smallest(1), recs(rec(0, "a"))
	ahead := talkOf(cameUp(start...), begun(1))
	askCodes(t, g, start, []codeCase{
		{"a begin", ahead, begins(), impl.Answer{Txn: 2}, []int64{0, codeDown}},
		{"an insert", ahead, inserts(1, "x"), impl.Answer{Id: 1}, []int64{0, codeDown, codeSpace, codeLog}},
		{"a longer update", ahead, updates(1, 0, "xx"), impl.Answer{}, []int64{0, codeDown, codeSpace, codeLog}},
		{"an update", ahead, updates(1, 0, "x"), impl.Answer{}, []int64{0, codeDown, codeLog}},
		{"a delete", ahead, deletes(1, 0), impl.Answer{}, []int64{0, codeDown, codeLog}},
		{"a read", ahead, reads(1, 0), impl.Answer{Data: []byte("a")}, []int64{0, codeDown}},
		{"a commit", ahead, commits(1), impl.Answer{}, []int64{0, codeDown}},
		{"an abort", ahead, aborts(1), impl.Answer{}, []int64{0, codeDown}},
		{"a checkpoint", ahead, checkpoints(), impl.Answer{}, []int64{0, codeDown, codeLog}},
		{"a restart", ahead, restarts(), impl.Answer{Records: start}, []int64{codeUp}},
		{"a restart without records", ahead, restarts(), impl.Answer{}, []int64{codeUp}},
		{"a crash", ahead, crashes(0, 1), impl.Answer{}, []int64{0}},
		{"a cut", ahead, cuts(0), impl.Answer{}, []int64{0}},
		{"a cut behind a cut", talkOf(ahead, done(cuts(1))), cuts(-1), impl.Answer{}, []int64{0}},
		{"a restart behind a cut", talkOf(ahead, done(cuts(1))), restarts(), impl.Answer{Records: start}, []int64{codeUp}},
	})
}

// TestThePowerGoesInEachKind: whatever the step would have met, it is down behind it.
func TestThePowerGoesInEachKind(t *testing.T) {
	g, start := smallest(1), recs(rec(0, "a"))
	ahead := talkOf(cameUp(start...), begun(1), done(updates(1, 0, "b")), begunAll(2, 8))
	steps := append(stepOfEachKind(), inserts(9, textOf(2000, 'x')), updates(1, 99, "x"), updates(2, 0, "x"), deletes(1, 4), reads(0, 0), commits(9), aborts(-1))
	for _, s := range steps {
		gone := talkOf(ahead, failed(s, codeDown))
		p := runTalk(g, start, gone)
		if ofPower(s.Kind) {
			if !isZeroPlain(p, 1, int64(len(ahead))) {
				t.Error("the power may go in the kind", s.Kind)
			}
			continue
		}
		if !samePlain(p, impl.Plain{Place: int64(len(gone)), Records: start}) {
			t.Error("behind the power that went in", s.Kind, "it tells", p)
		}
		for _, next := range stepOfEachKind() {
			if p := runTalk(g, start, talkOf(gone, failed(next, codeDown))); (p.Code == 0) != (next.Kind <= 9) {
				t.Error("behind the power that went in", s.Kind, "the kind", next.Kind, "has", p)
			}
		}
		if p := runTalk(g, start, talkOf(gone, begun(9))); !isZeroPlain(p, 1, int64(len(gone))) {
			t.Error("behind the power that went in", s.Kind, "it is up")
		}
		if p := runTalk(g, start, talkOf(gone, cameUp(start...), begun(1), seen(1, 0, "a"))); p.Code != 0 {
			t.Error("behind the power that went in", s.Kind, "and a restart it has", p)
		}
	}
}

// TestACrashFreesAll: transactions, their writings, their locks and their numbers.
func TestACrashFreesAll(t *testing.T) {
	g, start := smallest(1), recs(rec(0, "a"), rec(1, "b"), rec(2, "c"))
	ahead := talkOf(cameUp(start...), begun(1), begun(2), done(updates(1, 0, "x")), done(deletes(1, 1)), inserted(1, 3, "new"), seen(2, 2, "c"), failed(deletes(2, 9), codeAbsent), begunAll(13, 18))
	if p := runTalk(g, start, ahead); p.Code != 0 || len(p.Txns) != 8 {
		t.Fatal("the talk ahead has", p)
	}
	for _, stop := range []talk{done(crashes(1, 1)), failed(begins(), codeDown), failed(checkpoints(), codeDown), failed(aborts(1), codeDown)} {
		behind := talkOf(ahead, stop, cameUp(start...))
		if p := runTalk(g, start, behind); !samePlain(p, impl.Plain{Place: int64(len(behind)), Records: start}) {
			t.Error("behind a restart it tells", p)
		}
		askCodes(t, g, start, []codeCase{
			{"one of before", behind, reads(1, 0), impl.Answer{Data: []byte("a")}, []int64{codeDown, codeTxn}},
			{"its commit", behind, commits(1), impl.Answer{}, []int64{codeDown, codeTxn}},
			{"the number 1 again", behind, begins(), impl.Answer{Txn: 1}, []int64{0, codeDown}},
			{"what was changed", talkOf(behind, begun(2)), updates(2, 0, "y"), impl.Answer{}, []int64{0, codeDown, codeLog}},
			{"what was deleted", talkOf(behind, begun(2)), reads(2, 1), impl.Answer{Data: []byte("b")}, []int64{0, codeDown}},
			{"what was read", talkOf(behind, begun(1)), deletes(1, 2), impl.Answer{}, []int64{0, codeDown, codeLog}},
			{"what was inserted", talkOf(behind, begun(2)), reads(2, 3), impl.Answer{}, []int64{codeDown, codeAbsent}},
			{"the id that was inserted", talkOf(behind, begun(2)), inserts(2, "n"), impl.Answer{Id: 3}, []int64{0, codeDown, codeSpace, codeLog}},
			{"the id that was locked", talkOf(behind, begun(3)), inserts(3, "n"), impl.Answer{Id: 9}, []int64{0, codeDown, codeSpace, codeLog}},
		})
	}
}

// cutCommit has a commit that was cut: an insert, an update, a delete, one insert
// that is gone again, and another transaction beside it.
func cutCommit() (start, with []impl.HeapRecord, all talk) {
	start = recs(rec(1, "one"), rec(2, "two"), rec(3, "three"))
	with = recs(rec(0, "zero"), rec(1, "uno"), rec(3, "three"))
	all = talkOf(
		cameUp(start...), begun(1), begun(2), inserted(1, 0, "null"), done(updates(1, 0, "zero")), done(updates(1, 1, "uno")), done(deletes(1, 2)),
		inserted(1, 7, "gone"), done(deletes(1, 7)), done(updates(2, 3, "other")), failed(commits(1), codeDown),
	)
	return start, with, all
}

func TestARestartBehindACommitThatWasCut(t *testing.T) {
	g := smallest(1)
	start, with, all := cutCommit()
	for name, between := range map[string]talk{
		"nothing":           nil,
		"a crash":           done(crashes()),
		"two crashes":       talkOf(done(crashes(1)), done(crashes())),
		"a cut restart":     failed(restarts(), codeDown),
		"a corrupt restart": failed(restarts(), codeCorrupt),
		"calls":             talkOf(failed(commits(1), codeDown), failed(commits(2), codeDown), failed(begins(), codeDown)),
		"all of them":       talkOf(done(cuts(3)), failed(restarts(), codeDown), done(crashes()), failed(restarts(), codeCorrupt), failed(commits(2), codeDown), done(cuts(-1))),
	} {
		ahead := talkOf(all, between)
		if p := runTalk(g, start, ahead); !samePlain(p, impl.Plain{Place: int64(len(ahead)), Records: start}) {
			t.Error("with", name, "ahead of the restart it tells", p)
		}
		for _, c := range []struct {
			name    string
			records []impl.HeapRecord
			is      bool
		}{
			{"the committed ones", start, true},
			{"those with the commit", with, true},
			{"none", nil, false},
			{"without the insert", recs(rec(1, "uno"), rec(3, "three")), false},
			{"without the update", recs(rec(0, "zero"), rec(1, "one"), rec(3, "three")), false},
			{"without the delete", recs(rec(0, "zero"), rec(1, "uno"), rec(2, "two"), rec(3, "three")), false},
			{"the insert alone", recs(rec(0, "zero"), rec(1, "one"), rec(2, "two"), rec(3, "three")), false},
			{"an earlier writing", recs(rec(0, "null"), rec(1, "uno"), rec(3, "three")), false},
			{"what was gone again", recs(rec(0, "zero"), rec(1, "uno"), rec(3, "three"), rec(7, "gone")), false},
			{"the other one too", recs(rec(0, "zero"), rec(1, "uno"), rec(3, "other")), false},
			{"the other one alone", recs(rec(1, "one"), rec(2, "two"), rec(3, "other")), false},
			{"another order", recs(rec(1, "uno"), rec(0, "zero"), rec(3, "three")), false},
			{"one of them twice", recs(rec(0, "zero"), rec(1, "uno"), rec(1, "uno"), rec(3, "three")), false},
			{"one more", append(copyRecords(with), rec(9, "")), false},
			{"one less", with[:2], false},
			{"a byte more", recs(rec(0, "zero"), rec(1, "uno"), rec(3, "three\x00")), false},
			{"another id", recs(rec(0, "zero"), rec(1, "uno"), rec(4, "three")), false},
		} {
			p := runTalk(g, start, talkOf(ahead, cameUp(c.records...)))
			if !c.is && !isZeroPlain(p, 1, int64(len(ahead))) || c.is && !samePlain(p, impl.Plain{Place: int64(len(ahead)) + 1, Records: c.records}) {
				t.Error("a restart with", name, "ahead and", c.name, "has", p)
			}
		}
	}
}

// TestARestartSettlesACommitThatWasCut: the next one must tell what the first one told.
func TestARestartSettlesACommitThatWasCut(t *testing.T) {
	g := smallest(1)
	start, with, all := cutCommit()
	for _, c := range []struct{ first, other []impl.HeapRecord }{{start, with}, {with, start}} {
		ahead := talkOf(all, cameUp(c.first...))
		for _, between := range []talk{done(crashes()), failed(begins(), codeDown), talkOf(begun(1), failed(commits(1), codeDown)), talkOf(done(crashes()), failed(restarts(), codeCorrupt))} {
			if p := runTalk(g, start, talkOf(ahead, between, cameUp(c.first...))); p.Code != 0 || !sameRecords(p.Records, c.first) {
				t.Error("the second restart may not tell the same:", p)
			}
			if p := runTalk(g, start, talkOf(ahead, between, cameUp(c.other...))); !isZeroPlain(p, 1, int64(len(ahead)+len(between))) {
				t.Error("the second restart may tell something else")
			}
		}
		read := talkOf(ahead, begun(1))
		for _, r := range c.first {
			read = talkOf(read, seen(1, r.Id, string(r.Data)))
		}
		if p := runTalk(g, start, read); p.Code != 0 {
			t.Error("behind the restart a read has", p)
		}
	}
}

// TestACutCommitOverAnother: a later one is all that is open, and the first is what it became.
func TestACutCommitOverAnother(t *testing.T) {
	g := smallest(1)
	start, with, all := cutCommit()
	ahead := talkOf(all, cameUp(with...), begun(1), done(updates(1, 0, "again")), failed(commits(1), codeDown))
	again := recs(rec(0, "again"), rec(1, "uno"), rec(3, "three"))
	for _, c := range []struct {
		records []impl.HeapRecord
		is      bool
	}{{with, true}, {again, true}, {start, false}, {laidOver(start, []impl.HeapWrite{wrote(0, "again")}), false}} {
		if p := runTalk(g, start, talkOf(ahead, cameUp(c.records...))); (p.Code == 0) != c.is {
			t.Error("behind two commits that were cut the records", c.records, "have", p.Code)
		}
	}
}

func TestDownAtStepsThatAreNoCommit(t *testing.T) {
	g, start := smallest(1), recs(rec(1, "one"))
	with := recs(rec(1, "new"))
	ahead := talkOf(cameUp(start...), begun(1), done(updates(1, 1, "new")), begun(2), begun(3), done(aborts(3)))
	for _, s := range []impl.Step{
		commits(3), commits(4), commits(0), commits(-1), commits(2), aborts(1), begins(), inserts(1, "x"), updates(1, 1, "y"), deletes(1, 1), reads(1, 1), checkpoints(),
	} {
		gone := talkOf(ahead, failed(s, codeDown))
		if p := runTalk(g, start, talkOf(gone, cameUp(start...))); p.Code != 0 {
			t.Error("the power in", s, "and the committed records have", p)
		}
		if p := runTalk(g, start, talkOf(gone, cameUp(with...))); !isZeroPlain(p, 1, int64(len(gone))) {
			t.Error("the power in", s, "lets another one's writing be committed")
		}
	}
	// A commit that is sent while it is down is cut by nothing.
	crashed := talkOf(ahead, done(crashes()), failed(commits(1), codeDown))
	if p := runTalk(g, start, talkOf(crashed, cameUp(with...))); !isZeroPlain(p, 1, int64(len(crashed))) {
		t.Error("a commit while it is down is a commit that was cut")
	}
	if p := runTalk(g, start, talkOf(ahead, failed(commits(1), codeDown), cameUp(with...))); p.Code != 0 {
		t.Error("the commit itself has", p)
	}
}

// TestRestartsTellTheCommittedRecords without any commit that was cut.
func TestRestartsTellTheCommittedRecords(t *testing.T) {
	g, start := smallest(2), recs(rec(0, ""), rec(40, "forty"))
	for _, c := range []struct {
		name    string
		records []impl.HeapRecord
		is      bool
	}{
		{"the start", start, true},
		{"the start with nil in the place of no bytes", recs(impl.HeapRecord{}, rec(40, "forty")), true},
		{"nothing", nil, false},
		{"an empty list", recs(), false},
		{"a record less", start[:1], false},
		{"the other one less", start[1:], false},
		{"a record more", append(copyRecords(start), rec(63, "")), false},
		{"a record more, behind the last id", append(copyRecords(start), rec(64, "")), false},
		{"other bytes", recs(rec(0, ""), rec(40, "fourt")), false},
		{"bytes where there are none", recs(rec(0, "\x00"), rec(40, "forty")), false},
		{"another order", recs(start[1], start[0]), false},
		{"another id", recs(rec(1, ""), rec(40, "forty")), false},
	} {
		if p := runTalk(g, start, cameUp(c.records...)); (p.Code == 0) != c.is {
			t.Error("a restart that tells", c.name, "has", p.Code)
		}
	}
	if p := runTalk(g, nil, cameUp()); p.Code != 0 {
		t.Error("a restart without records has", p.Code)
	}
	if p := runTalk(g, nil, said(restarts(), impl.Answer{Records: recs()})); p.Code != 0 {
		t.Error("a restart with an empty list has", p.Code)
	}
	// Behind commits and aborts, with and without a crash ahead of it.
	ahead := talkOf(cameUp(start...), begun(1), begun(2), done(deletes(1, 40)), inserted(2, 5, "never"), inserted(1, 6, "six"), done(commits(1)), done(aborts(2)), begun(3), done(deletes(3, 0)))
	want := recs(rec(0, ""), rec(6, "six"))
	for _, stop := range []talk{done(crashes()), failed(reads(3, 0), codeDown)} {
		if p := runTalk(g, start, talkOf(ahead, stop, cameUp(want...), done(crashes()), cameUp(want...))); p.Code != 0 || !sameRecords(p.Records, want) {
			t.Error("behind a commit and an abort the restart has", p)
		}
		for _, other := range [][]impl.HeapRecord{start, recs(rec(6, "six")), recs(rec(0, ""), rec(5, "never"), rec(6, "six"))} {
			if p := runTalk(g, start, talkOf(ahead, stop, cameUp(other...))); p.Code != 1 {
				t.Error("behind a commit and an abort the restart may tell", other)
			}
		}
	}
}
