package tests

import (
	"fmt"
	"math"
	"slices"
	"testing"

	"loop.example/s02544/impl"
)

func TestPlainFaultsOfGeometryAndSteps(t *testing.T) {
	g := smallest(2)
	start := recs(rec(3, "x"))
	good := talkOf(cameUp(start...), begun(1))
	if p := runTalk(g, start, good); p.Code != 0 {
		t.Fatal("the talk itself has the code", p.Code)
	}
	for _, w := range faultyGeometries() {
		for _, c := range []talk{nil, good, done(restarts())} {
			if p := runTalk(w, start, c); !isZeroPlain(p, 2, 0) {
				t.Error("the faulty geometry", w, "has", p)
			}
		}
		if p := impl.PlainRun(w, nil, nil, nil); !isZeroPlain(p, 2, 0) {
			t.Error("the faulty geometry", w, "and nothing else has", p)
		}
	}
	for _, s := range []impl.Step{
		{}, {Kind: 12}, {Kind: -1}, {Kind: math.MaxInt64}, {Kind: math.MinInt64}, {Kind: 1, Txn: 1}, {Kind: 2, Id: 1}, {Kind: 3, Count: 1}, {Kind: 4, Data: []byte{0}},
		{Kind: 5, Keep: []int64{0}}, {Kind: 6, Id: 1}, {Kind: 7, Data: []byte{0}}, {Kind: 8, Txn: 1}, {Kind: 9, Count: 1}, {Kind: 10, Count: -1}, {Kind: 11, Txn: 1},
		cuts(-2), cuts(mostIO + 1), crashes(make([]int64, mostPending+1)...),
	} {
		for place := range len(good) + 1 {
			bent := slices.Insert(slices.Clone(good), place, exchange{step: s})
			if p := runTalk(g, start, bent); !isZeroPlain(p, 2, 0) {
				t.Error("the step", s.Kind, "with a fault at", place, "has", p)
			}
		}
		// It is faulty as well behind a step whose answer is not allowed.
		if p := runTalk(g, start, talkOf(done(begins()), done(s))); !isZeroPlain(p, 2, 0) {
			t.Error("the step", s.Kind, "with a fault behind a wrong answer has", p)
		}
	}
	for _, c := range []talk{done(cuts(-1)), done(cuts(mostIO)), done(crashes(make([]int64, mostPending)...)), done(crashes(7, -7))} {
		if p := runTalk(g, start, c); p.Code != 0 {
			t.Error("a step at its bounds has the code", p.Code)
		}
	}
}

func TestPlainFaultsOfLengths(t *testing.T) {
	g := smallest(1)
	most := slices.Repeat(done(cuts(-1)), mostSteps)
	if p := runTalk(g, nil, most); !isZeroPlain(p, 0, mostSteps) {
		t.Error("the most steps have", p)
	}
	if p := runTalk(g, nil, append(most, most[0])); !isZeroPlain(p, 2, 0) {
		t.Error("one step more has", p)
	}
	steps, answers := talkOf(cameUp(), begun(1), done(commits(1))).parts()
	for n := range len(answers) {
		if p := impl.PlainRun(g, nil, steps, answers[:n]); !isZeroPlain(p, 2, 0) {
			t.Error(n, "answers to three steps have", p)
		}
		if p := impl.PlainRun(g, nil, steps[:n], answers); !isZeroPlain(p, 2, 0) {
			t.Error("three answers to", n, "steps have", p)
		}
		if p := impl.PlainRun(g, nil, steps[:n], answers[:n+1]); !isZeroPlain(p, 2, 0) {
			t.Error("an answer more than", n, "steps has", p)
		}
	}
	// That all data have their bound in a run is nothing that is asked here.
	long := talkOf(cameUp(), begun(1))
	for range 3 {
		long = talkOf(long, failed(inserts(1, textOf(90000, 'a')), codeBig))
	}
	if p := runTalk(g, nil, long); p.Code != 0 || p.Place != 5 {
		t.Error("very many bytes have", p.Code, p.Place)
	}
}

func TestPlainFaultsOfStart(t *testing.T) {
	long, longer := textOf(1000, 'l'), textOf(1001, 'l')
	for _, pages := range []int64{1, 2, 16} {
		g := smallest(pages)
		last := pages*slotsEach - 1
		for _, c := range []struct {
			name  string
			start []impl.HeapRecord
			code  int64
		}{
			{"nothing", nil, 0},
			{"an empty list", recs(), 0},
			{"one record", recs(rec(0, "a")), 0},
			{"the first and the last", recs(rec(0, "a"), rec(last, "b")), 0},
			{"the most bytes", recs(rec(0, long), rec(last, long)), 0},
			{"no bytes", recs(rec(0, ""), rec(1, "")), 0},
			{"one byte more", recs(rec(0, longer)), 2},
			{"one byte more at the end", recs(rec(0, "a"), rec(last, longer)), 2},
			{"two of one id", recs(rec(4, "a"), rec(4, "a")), 2},
			{"two of one id at the end", recs(rec(1, "a"), rec(4, "a"), rec(4, "b")), 2},
			{"falling", recs(rec(4, "a"), rec(3, "a")), 2},
			{"falling at the end", recs(rec(1, "a"), rec(9, "a"), rec(3, "a")), 2},
			{"the id -1", recs(rec(-1, "a")), 2},
			{"the id -1 ahead", recs(rec(-1, "a"), rec(0, "a")), 2},
			{"the id behind the last", recs(rec(0, "a"), rec(last+1, "a")), 2},
			{"the least id of all", recs(rec(math.MinInt64, "a")), 2},
			{"the greatest id of all", recs(rec(math.MaxInt64, "a")), 2},
		} {
			want := impl.Plain{Code: c.code}
			if c.code == 0 {
				want.Records = c.start
			}
			if p := impl.PlainRun(g, c.start, nil, nil); !samePlain(p, want) {
				t.Error("a start with", c.name, "of", pages, "pages has", p.Code, p.Place)
			}
			want.Place = 2 * (1 - c.code/2)
			if p := runTalk(g, c.start, talkOf(failed(begins(), codeDown), cameUp(c.start...))); !samePlain(p, want) {
				t.Error("a start with", c.name, "of", pages, "pages and two steps has", p.Code, p.Place)
			}
		}
	}
}

// tellingTalk has ends of both kinds, two cuts, and three that have not ended.
func tellingTalk() (start []impl.HeapRecord, all talk) {
	start = recs(rec(2, "two"), rec(8, "eight"), rec(30, ""))
	all = talkOf(
		cameUp(start...), begun(4), begun(7), begun(9),
		inserted(4, 31, "last"), done(updates(4, 8, "more")), inserted(7, 0, "mine"), done(deletes(4, 30)), done(commits(4)),
		begun(10), begun(12), done(deletes(10, 8)), done(aborts(10)),
		done(updates(7, 31, "end")), done(deletes(7, 31)), done(deletes(7, 2)), done(updates(7, 0, "me")), inserted(7, 20, ""),
		failed(updates(9, 2, "x"), codeConflict), done(checkpoints()), inserted(12, 5, "five"), done(updates(12, 5, "")),
	)
	return start, all
}

func TestWhatAPlainRunTells(t *testing.T) {
	start, all := tellingTalk()
	want := impl.Plain{
		Place:   int64(len(all)),
		Records: recs(rec(2, "two"), rec(8, "more"), rec(31, "last")),
		Txns: []impl.PlainTxn{
			{Txn: 7, Writes: []impl.HeapWrite{wrote(0, "me"), {Id: 2}, wrote(20, ""), {Id: 31}}},
			{Txn: 9},
			{Txn: 12, Writes: []impl.HeapWrite{wrote(5, "")}},
		},
	}
	if p := runTalk(smallest(1), start, all); !samePlain(p, want) {
		t.Fatal("it tells", p, "and not", want)
	}
	for n := range len(all) + 1 {
		if p, judged := runTalk(smallest(1), start, all[:n]), plainJudge(smallest(1), start, all[:n]); !samePlain(p, judged) || p.Place != int64(n) {
			t.Error("behind", n, "steps it tells", p, "and not", judged)
		}
	}
	// What has ended by going down is none that has not ended; committed is what was.
	for _, end := range []talk{done(crashes()), failed(checkpoints(), codeDown), failed(commits(7), codeDown), failed(reads(3, 3), codeDown)} {
		p := runTalk(smallest(1), start, talkOf(all, end))
		if !samePlain(p, impl.Plain{Place: int64(len(all)) + 1, Records: want.Records}) {
			t.Error("behind a step of the kind", end[0].step.Kind, "it tells", p)
		}
	}
}

// TestTheFirstStepThatIsNotAllowed bends one answer, and then all behind it too.
func TestTheFirstStepThatIsNotAllowed(t *testing.T) {
	start, all := tellingTalk()
	for i := range all {
		bent := slices.Clone(all)
		bent[i].answer.Code = codeUp
		if p := runTalk(smallest(1), start, bent); !isZeroPlain(p, 1, int64(i)) {
			t.Error("a wrong answer to step", i, "has", p)
		}
		for k := i + 1; k < len(bent); k++ {
			bent[k].answer = impl.Answer{Code: 99, Txn: 99, Id: -1}
		}
		if p := runTalk(smallest(1), start, bent); !isZeroPlain(p, 1, int64(i)) {
			t.Error("wrong answers from step", i, "on have", p)
		}
	}
}

func TestNoStepsAtAll(t *testing.T) {
	for _, g := range goodGeometries() {
		start := recs(rec(0, "a"), rec(g.Pages*slotsEach-1, ""))
		if p := impl.PlainRun(g, nil, nil, nil); !isZeroPlain(p, 0, 0) {
			t.Error("no steps have", p)
		}
		if p := impl.PlainRun(g, recs(), []impl.Step{}, []impl.Answer{}); !isZeroPlain(p, 0, 0) {
			t.Error("empty lists have", p)
		}
		if p := impl.PlainRun(g, start, nil, nil); !samePlain(p, impl.Plain{Records: start}) {
			t.Error("no steps and two records have", p)
		}
	}
}

// codesAllowed are the codes with which the step may be answered behind the talk.
// The answer with the code 0 has the fields of ok.
func codesAllowed(g impl.Geometry, start []impl.HeapRecord, ahead talk, s impl.Step, ok impl.Answer) []int64 {
	var list []int64
	codes := []int64{math.MinInt64, -1, 0, 1, 2, 3, 4, 5, 6, 7, 8, 9, 10, 11, 12, 13, math.MaxInt64}
	for _, code := range codes {
		a := impl.Answer{Code: code}
		if code == 0 {
			a = ok
		}
		switch p := runTalk(g, start, talkOf(ahead, said(s, a))); {
		case p.Code == 0:
			list = append(list, code)
		case !isZeroPlain(p, 1, int64(len(ahead))):
			panic(fmt.Sprint("the talk ahead is not allowed at ", p.Place))
		}
	}
	return list
}

// codeCase is a step behind a talk, and all codes that it may have.
type codeCase struct {
	name  string
	ahead talk
	step  impl.Step
	ok    impl.Answer
	want  []int64
}

func askCodes(t *testing.T, g impl.Geometry, start []impl.HeapRecord, cases []codeCase) {
	t.Helper()
	for _, c := range cases {
		if got := codesAllowed(g, start, c.ahead, c.step, c.ok); !slices.Equal(got, c.want) {
			t.Error(c.name, "may have the codes", got, "and not", c.want)
		}
	}
}

// stepOfEachKind has a step of each kind, of the transaction 1 and the id 0.
func stepOfEachKind() []impl.Step {
	return append(eachKind(), restarts(), crashes(1), cuts(4))
}
