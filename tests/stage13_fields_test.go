package tests

import (
	"math"
	"slices"
	"testing"

	"loop.example/s02544/impl"
)

// allowedAnswers has each kind of step with each code that it may have, up and down.
func allowedAnswers() (start []impl.HeapRecord, all map[string]talk) {
	start, up := sideBySide()
	down := talkOf(up, done(crashes()))
	full := talkOf(up, begunAll(21, 26))
	big := textOf(1001, 'b')
	all = map[string]talk{
		"begin OK":           talkOf(up, begun(4)),
		"begin ErrDown":      talkOf(down, failed(begins(), codeDown)),
		"begin ErrTxns":      talkOf(full, failed(begins(), codeTxns)),
		"begin power":        talkOf(up, failed(begins(), codeDown)),
		"insert OK":          talkOf(up, inserted(1, 7, "x")),
		"insert ErrDown":     talkOf(down, failed(inserts(1, "x"), codeDown)),
		"insert ErrTxn":      talkOf(up, failed(inserts(9, "x"), codeTxn)),
		"insert ErrBig":      talkOf(up, failed(inserts(1, big), codeBig)),
		"insert ErrSpace":    talkOf(up, failed(inserts(1, "x"), codeSpace)),
		"insert ErrLog":      talkOf(up, failed(inserts(1, "x"), codeLog)),
		"update OK":          talkOf(up, done(updates(1, 0, "x"))),
		"update ErrDown":     talkOf(down, failed(updates(1, 0, "x"), codeDown)),
		"update ErrTxn":      talkOf(up, failed(updates(9, 0, "x"), codeTxn)),
		"update ErrBig":      talkOf(up, failed(updates(1, 0, big), codeBig)),
		"update ErrId":       talkOf(up, failed(updates(1, 32, "x"), codeId)),
		"update ErrConflict": talkOf(up, failed(updates(2, 0, "x"), codeConflict)),
		"update ErrAbsent":   talkOf(up, failed(updates(1, 30, "x"), codeAbsent)),
		"update ErrSpace":    talkOf(up, failed(updates(1, 0, "longer"), codeSpace)),
		"update ErrLog":      talkOf(up, failed(updates(1, 0, "x"), codeLog)),
		"delete OK":          talkOf(up, done(deletes(1, 0))),
		"delete ErrDown":     talkOf(down, failed(deletes(1, 0), codeDown)),
		"delete ErrTxn":      talkOf(up, failed(deletes(9, 0), codeTxn)),
		"delete ErrId":       talkOf(up, failed(deletes(1, -1), codeId)),
		"delete ErrConflict": talkOf(up, failed(deletes(2, 0), codeConflict)),
		"delete ErrAbsent":   talkOf(up, failed(deletes(1, 1), codeAbsent)),
		"delete ErrLog":      talkOf(up, failed(deletes(1, 0), codeLog)),
		"read OK":            talkOf(up, seen(1, 0, "null")),
		"read ErrDown":       talkOf(down, failed(reads(1, 0), codeDown)),
		"read ErrTxn":        talkOf(up, failed(reads(9, 0), codeTxn)),
		"read ErrId":         talkOf(up, failed(reads(1, 32), codeId)),
		"read ErrConflict":   talkOf(up, failed(reads(2, 0), codeConflict)),
		"read ErrAbsent":     talkOf(up, failed(reads(1, 1), codeAbsent)),
		"commit OK":          talkOf(up, done(commits(1))),
		"commit ErrDown":     talkOf(down, failed(commits(1), codeDown)),
		"commit ErrTxn":      talkOf(up, failed(commits(9), codeTxn)),
		"commit power":       talkOf(up, failed(commits(1), codeDown)),
		"abort OK":           talkOf(up, done(aborts(1))),
		"abort ErrDown":      talkOf(down, failed(aborts(1), codeDown)),
		"abort ErrTxn":       talkOf(up, failed(aborts(9), codeTxn)),
		"checkpoint OK":      talkOf(up, done(checkpoints())),
		"checkpoint ErrDown": talkOf(down, failed(checkpoints(), codeDown)),
		"checkpoint ErrLog":  talkOf(up, failed(checkpoints(), codeLog)),
		"checkpoint power":   talkOf(up, failed(checkpoints(), codeDown)),
		"restart OK":         talkOf(down, cameUp(start...)),
		"restart ErrDown":    talkOf(down, failed(restarts(), codeDown)),
		"restart ErrCorrupt": talkOf(down, failed(restarts(), codeCorrupt)),
		"restart ErrUp":      talkOf(up, failed(restarts(), codeUp)),
		"crash up":           talkOf(up, done(crashes(1))),
		"crash down":         talkOf(down, done(crashes())),
		"cut up":             talkOf(up, done(cuts(2))),
		"cut down":           talkOf(down, done(cuts(-1))),
	}
	return start, all
}

// TestFieldsThatAreNotSpokenOf sets each field of each answer to something else.
func TestFieldsThatAreNotSpokenOf(t *testing.T) {
	g := smallest(1)
	start, all := allowedAnswers()
	spoken := map[string]string{"begin OK": "Txn", "insert OK": "Id", "read OK": "Data", "restart OK": "Records"}
	bends := []struct {
		field string
		bend  func(a *impl.Answer)
	}{
		{"Txn", func(a *impl.Answer) { a.Txn++ }},
		{"Txn", func(a *impl.Answer) { a.Txn-- }},
		{"Txn", func(a *impl.Answer) { a.Txn = math.MinInt64 }},
		{"Id", func(a *impl.Answer) { a.Id++ }},
		{"Id", func(a *impl.Answer) { a.Id = -1 }},
		{"Id", func(a *impl.Answer) { a.Id = math.MaxInt64 }},
		{"Data", func(a *impl.Answer) { a.Data = append(slices.Clone(a.Data), 0) }},
		{"Data", func(a *impl.Answer) { a.Data = []byte("other") }},
		{"Records", func(a *impl.Answer) { a.Records = append(slices.Clone(a.Records), impl.HeapRecord{}) }},
		{"Records", func(a *impl.Answer) { a.Records = recs(rec(0, "zero")) }},
		{"Code", func(a *impl.Answer) { a.Code = 12 }},
		{"Code", func(a *impl.Answer) { a.Code = -1 }},
	}
	for name, c := range all {
		last := len(c) - 1
		if p := runTalk(g, start, c); p.Code != 0 {
			t.Error(name, "has", p)
		}
		for i, b := range bends {
			bent := slices.Clone(c)
			b.bend(&bent[last].answer)
			if p := runTalk(g, start, bent); spoken[name] != b.field && !isZeroPlain(p, 1, int64(last)) {
				t.Error(name, "with another", b.field, i, "has", p)
			}
		}
	}
}

// TestUsedIsNotAskedFor: a plain map has no disk, so it may be any number.
func TestUsedIsNotAskedFor(t *testing.T) {
	g := smallest(1)
	start, all := allowedAnswers()
	for name, c := range all {
		want := runTalk(g, start, c)
		for _, used := range []int64{1, -1, 6, 1 << 40, math.MaxInt64, math.MinInt64} {
			bent := slices.Clone(c)
			for i := range bent {
				bent[i].answer.Used = used
			}
			if p := runTalk(g, start, bent); p.Code != 0 || !samePlain(p, want) {
				t.Error(name, "with Used", used, "has", p)
			}
		}
	}
}

// TestEmptyListsOfAnswersAreNil: the document takes them as one value.
func TestEmptyListsOfAnswersAreNil(t *testing.T) {
	g := smallest(1)
	start, all := allowedAnswers()
	for name, c := range all {
		want := runTalk(g, start, c)
		bent := slices.Clone(c)
		for i, e := range bent {
			bent[i].answer.Data = append([]byte{}, e.answer.Data...)
			bent[i].answer.Records = append([]impl.HeapRecord{}, e.answer.Records...)
			bent[i].step.Data = append([]byte{}, e.step.Data...)
			bent[i].step.Keep = append([]int64{}, e.step.Keep...)
		}
		if p := runTalk(g, start, bent); p.Code != 0 || !samePlain(p, want) {
			t.Error(name, "with empty lists has", p)
		}
	}
	bare := recs(impl.HeapRecord{Id: 3}, impl.HeapRecord{Id: 4, Data: []byte{}})
	empty := recs(impl.HeapRecord{Id: 3, Data: []byte{}}, impl.HeapRecord{Id: 4})
	ahead := talkOf(cameUp(empty...), begun(1), said(reads(1, 3), impl.Answer{}), said(reads(1, 4), impl.Answer{Data: []byte{}}))
	if p := runTalk(g, bare, ahead); p.Code != 0 || !sameRecords(p.Records, bare) {
		t.Error("records of no bytes have", p)
	}
}
