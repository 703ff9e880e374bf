package tests

import (
	"bytes"
	"math/rand"
	"slices"
	"testing"

	"loop.example/s02544/impl"
)

// TestAPlainMapAllowsAnyScript is P15: whatever the steps, cuts and crashes.
func TestAPlainMapAllowsAnyScript(t *testing.T) {
	r := rand.New(rand.NewSource(1301))
	commitsCut, became := 0, 0
	for range 120 {
		g := anyGeometry(r)
		steps := anyScript(r, g, 20+r.Intn(370)).steps
		run := impl.RunEngine(g, impl.Format(g), steps)
		p := impl.PlainRun(g, nil, steps, run.Answers)
		if p.Code != 0 || p.Place != int64(len(steps)) || len(p.Txns) != 0 {
			t.Fatal("a run from Format has", p.Code, p.Place, "at", steps[min(p.Place, int64(len(steps)-1))])
		}
		if last := lastOf(run); last.Code != 0 || !sameRecords(last.Records, p.Records) {
			t.Fatal("the records behind the last restart are not those of the plain map")
		}
		if h := impl.Heap(run.Disk, g); !h.Good || !sameRecords(h.Records, p.Records) {
			t.Fatal("the heap in the end is not that of the plain map")
		}
		judged := plainJudge(g, nil, pairs(steps, run.Answers))
		if !samePlain(p, judged) {
			t.Fatal("the plain run has", p, "and by its history", judged)
		}
		cut, was := countCutCommits(g, pairs(steps, run.Answers))
		commitsCut, became = commitsCut+cut, became+was
	}
	if commitsCut < 20 || became < 3 {
		t.Error("the scripts are too tame: commits cut", commitsCut, "that came to pass", became)
	}
}

// countCutCommits tells how many commits with writings were cut, and how many of these a restart told.
func countCutCommits(g impl.Geometry, all talk) (cut, became int) {
	h := history{g: g}
	for i, e := range all {
		h.all = all[:i]
		if e.step.Kind != 9 || e.answer.Code != 0 {
			continue
		}
		with := laidOver(h.committed(), h.cutWrites())
		if !sameRecords(with, h.committed()) {
			cut++
			if sameRecords(with, e.answer.Records) {
				became++
			}
		}
	}
	return cut, became
}

// TestAPlainMapAllowsACutAnywhere is P15 for one script that is cut at each operation.
func TestAPlainMapAllowsACutAnywhere(t *testing.T) {
	g, open := crowded()
	ahead := script(open, updates(2, 33, "third"), updates(2, 65, "fourth"), inserts(2, "more"))
	rest := script(commits(2), checkpoints(), begins(), updates(3, 0, "late"), commits(3))
	whole := impl.RunEngine(g, impl.Format(g), script(ahead, rest))
	count := int64(0)
	for _, a := range whole.Answers[len(ahead):] {
		count += a.Used
	}
	met := map[int]int{}
	for n := range count {
		for _, keep := range [][]int64{nil, keepAll(99), {0, 1}, {1, 0, 1, 1, 0, 0, 1, 0, 1, 1, 1, 0}} {
			steps := script(ahead, cuts(n), rest, crashes(keep...), cuts(n), restarts(), crashes(keep...), cuts(-1), restarts())
			run := impl.RunEngine(g, impl.Format(g), steps)
			p := impl.PlainRun(g, nil, steps, run.Answers)
			if p.Code != 0 || !sameRecords(p.Records, lastOf(run).Records) {
				t.Fatal("cut at", n, "it has", p.Code, p.Place)
			}
			met[len(p.Records)]++
		}
	}
	if len(met) < 2 {
		t.Error("the cuts made no difference", met)
	}
}

// serial are the calls of the committed transactions that were not refused, one
// transaction after the other in the order of their commits, with numbers of
// their own that rise.
func serial(all talk) talk {
	var list talk
	next := int64(0)
	for i, e := range all {
		if e.step.Kind != 6 || e.answer.Code != 0 {
			continue
		}
		next++
		list = talkOf(list, begun(next))
		for _, call := range all[:i+1] {
			if call.step.Txn == e.step.Txn && (call.answer.Code == 0 || call.answer.Code == codeAbsent) {
				call.step.Txn = next
				list = append(list, call)
			}
		}
	}
	return list
}

// TestCommittedTransactionsOneAfterTheOther is P18.
func TestCommittedTransactionsOneAfterTheOther(t *testing.T) {
	r := rand.New(rand.NewSource(1302))
	transactions, crossed := 0, 0
	for range 80 {
		g := anyGeometry(r)
		m := newScriptMaker(r, g)
		m.cutting = 0
		if r.Intn(2) == 0 {
			m.fill()
		} else {
			m.do(restarts())
		}
		for len(m.steps) < 120+r.Intn(120) {
			s := len(m.steps)
			m.goOnWithoutCrash()
			if len(m.steps) == s {
				t.Fatal("the script does not go on")
			}
		}
		run := impl.RunEngine(g, impl.Format(g), m.steps)
		all := pairs(m.steps, run.Answers)
		want := impl.PlainRun(g, nil, m.steps, run.Answers)
		if want.Code != 0 {
			t.Fatal("the script has", want.Code, want.Place)
		}
		calls := serial(all)
		// One run takes so many steps; it goes on from the records that it led to.
		records := []impl.HeapRecord(nil)
		for len(calls) > 0 {
			n := wholeTransactions(calls, mostSteps-1)
			p := runTalk(g, records, talkOf(cameUp(records...), calls[:n]))
			if p.Code != 0 || len(p.Txns) != 0 {
				t.Fatal("one after the other, step", p.Place-1, calls[max(p.Place-1, 0)], "has", p.Code)
			}
			records, calls = p.Records, calls[n:]
		}
		if !sameRecords(records, want.Records) {
			t.Fatal("one after the other they end in other records")
		}
		transactions += countKind(all, 6)
		crossed += countCrossed(all)
	}
	if transactions < 300 || crossed < 50 {
		t.Error("the scripts are too tame: commits", transactions, "ahead of one that began first", crossed)
	}
}

func (m *scriptMaker) goOnWithoutCrash() {
	switch k := m.r.Intn(100); {
	case k < 14 || len(m.e.open) == 0:
		m.do(begins())
	case k < 36:
		m.do(inserts(m.txn(), m.bytes()))
	case k < 56:
		m.do(updates(m.txn(), m.id(), m.bytes()))
	case k < 66:
		m.do(deletes(m.txn(), m.id()))
	case k < 80:
		m.do(reads(m.txn(), m.id()))
	case k < 91:
		m.do(commits(m.txn()))
	case k < 95:
		m.do(aborts(m.txn()))
	default:
		m.do(checkpoints())
	}
}

// wholeTransactions is how many of the calls make at most so many steps and end with a commit.
func wholeTransactions(calls talk, most int) int {
	n := 0
	for i, e := range calls[:min(most, len(calls))] {
		if e.step.Kind == 6 {
			n = i + 1
		}
	}
	return n
}

func countKind(all talk, kind int64) int {
	n := 0
	for _, e := range all {
		if e.step.Kind == kind && e.answer.Code == 0 {
			n++
		}
	}
	return n
}

// countCrossed tells how many commits were ahead of one with a lesser number.
func countCrossed(all talk) int {
	n := 0
	last := int64(0)
	for _, e := range all {
		if e.step.Kind != 6 || e.answer.Code != 0 {
			continue
		}
		if e.step.Txn < last {
			n++
		}
		last = max(last, e.step.Txn)
	}
	return n
}

// talker makes talks that no engine need have: each answer that the history allows,
// and at last one of any kind.
type talker struct {
	r *rand.Rand
	h history
}

func (m *talker) txn() int64 {
	session, _ := m.h.session()
	open := session.openTxns()
	if len(open) == 0 || m.r.Intn(12) == 0 {
		return m.r.Int63n(12) - 1
	}
	return open[m.r.Intn(len(open))]
}

// id is one of few, so that transactions meet.
func (m *talker) id() int64 {
	if m.r.Intn(15) == 0 {
		return m.r.Int63n(m.h.g.Pages*slotsEach+4) - 2
	}
	return m.r.Int63n(6)
}

func (m *talker) text() string {
	if m.r.Intn(40) == 0 {
		return textOf(1000+m.r.Intn(2), 'b')
	}
	return textOf(m.r.Intn(7), byte('a'+m.r.Intn(3)))
}

func (m *talker) step() impl.Step {
	_, up := m.h.session()
	k := m.r.Intn(60)
	if !up && m.r.Intn(4) > 0 {
		return restarts()
	}
	switch {
	case k < 12:
		return begins()
	case k < 21:
		return inserts(m.txn(), m.text())
	case k < 30:
		return updates(m.txn(), m.id(), m.text())
	case k < 37:
		return deletes(m.txn(), m.id())
	case k < 46:
		return reads(m.txn(), m.id())
	case k < 52:
		return commits(m.txn())
	case k < 54:
		return aborts(m.txn())
	case k < 56:
		return checkpoints()
	case k < 57:
		return restarts()
	case k < 58:
		return crashes(1)
	}
	return cuts(3)
}

// answers are all codes, and some that are OK with what they may tell.
func (m *talker) answers(s impl.Step) []impl.Answer {
	var list []impl.Answer
	for code := int64(0); code <= 12; code++ {
		list = append(list, impl.Answer{Code: code})
	}
	seen, _ := m.h.sees(s.Txn, s.Id)
	committed := m.h.committed()
	with := laidOver(committed, m.h.cutWrites())
	told := int64(0)
	session, _ := m.h.session()
	for _, e := range session {
		told = max(told, e.answer.Txn)
	}
	for range 4 {
		list = append(list, impl.Answer{Txn: told + m.r.Int63n(4) - 1}, impl.Answer{Id: m.id()}, impl.Answer{Data: seen.Data},
			impl.Answer{Records: committed}, impl.Answer{Records: with}, impl.Answer{Records: with[:m.r.Intn(len(with)+1)]})
	}
	m.r.Shuffle(len(list), func(i, k int) { list[i], list[k] = list[k], list[i] })
	for i := range list {
		list[i].Used = m.r.Int63n(9)
	}
	return list
}

func (m *talker) goOn() {
	s := m.step()
	answers := m.answers(s)
	if s.Kind == 6 && m.r.Intn(3) == 0 {
		answers = []impl.Answer{{Code: codeDown}}
	}
	for _, a := range answers {
		if m.h.allows(s, a) && (a.Code != codeDown || ofPower(s.Kind) || m.r.Intn(5) == 0 || s.Kind == 6) {
			m.h.all = append(m.h.all, exchange{s, a})
			return
		}
	}
}

// TestAnyTalkIsJudgedByItsHistory holds each answer of many against the history.
func TestAnyTalkIsJudgedByItsHistory(t *testing.T) {
	r := rand.New(rand.NewSource(1303))
	met := map[[2]int64]int{}
	allowed, settled := 0, 0
	for range 400 {
		m := &talker{r: r, h: history{g: smallest(1 + r.Int63n(2))}}
		for id := range int64(5) {
			if r.Intn(2) == 0 {
				m.h.start = append(m.h.start, rec(id, textOf(r.Intn(6), 's')))
			}
		}
		for range 10 + r.Intn(80) {
			m.goOn()
		}
		g, start, all := m.h.g, m.h.start, slices.Clip(m.h.all)
		if p := runTalk(g, start, all); !samePlain(p, m.h.end()) {
			t.Fatal("a talk of", len(all), "steps has", p, "and not", m.h.end())
		}
		for _, e := range all {
			met[[2]int64{e.step.Kind, e.answer.Code}]++
		}
		for range 4 {
			s := m.step()
			for _, a := range m.answers(s) {
				bent := append(all, exchange{s, a})
				p, judged := runTalk(g, start, bent), plainJudge(g, start, bent)
				if !samePlain(p, judged) {
					t.Fatal("the step", s, "answered", a, "has", p, "and not", judged)
				}
				if p.Code == 0 {
					allowed++
				}
			}
		}
		cut, _ := countCutCommits(g, all)
		settled += cut
	}
	if settled < 30 || allowed < 1000 {
		t.Error("the talks are too tame:", allowed, "allowed,", settled, "commits that were cut")
	}
	askMet(t, met)
}

// TestABentAnswerOfAnEngine: an answer of a run is bent in one field, and all behind it stays.
func TestABentAnswerOfAnEngine(t *testing.T) {
	r := rand.New(rand.NewSource(1304))
	refused := 0
	for range 25 {
		g := anyGeometry(r)
		m := anyScript(r, g, 90)
		all := pairs(m.steps, m.answers)
		for range 60 {
			bent := copyTalk(all)
			bend(r, &bent[r.Intn(len(bent))].answer)
			p, judged := runTalk(g, nil, bent), plainJudge(g, nil, bent)
			if !samePlain(p, judged) {
				t.Fatal("a bent talk has", p, "and not", judged)
			}
			refused += int(p.Code)
		}
	}
	if refused < 500 {
		t.Error("only", refused, "bent talks were refused")
	}
}

func bend(r *rand.Rand, a *impl.Answer) {
	switch r.Intn(8) {
	case 0:
		a.Code = r.Int63n(13)
	case 1:
		a.Txn += r.Int63n(3) - 1
	case 2:
		a.Id += r.Int63n(3) - 1
	case 3:
		a.Data = append(bytes.Clone(a.Data), 0)
	case 4:
		a.Data = nil
	case 5:
		a.Records = append(a.Records, rec(31, "x"))
	case 6:
		if len(a.Records) > 0 {
			a.Records = slices.Delete(a.Records, 0, 1)
		}
	default:
		*a = impl.Answer{}
	}
}
