package tests

import (
	"bytes"
	"math"
	"math/rand"
	"slices"
	"sync"
	"testing"

	"loop.example/s02544/impl"
)

// plainArgument is what PlainRun takes.
type plainArgument struct {
	name    string
	g       impl.Geometry
	start   []impl.HeapRecord
	steps   []impl.Step
	answers []impl.Answer
}

func (a plainArgument) call() impl.Plain {
	return impl.PlainRun(a.g, a.start, a.steps, a.answers)
}

func plainArguments() []plainArgument {
	r := rand.New(rand.NewSource(1305))
	g := smallest(1)
	var list []plainArgument
	add := func(name string, start []impl.HeapRecord, t talk) {
		steps, answers := t.parts()
		list = append(list, plainArgument{name, g, start, steps, answers})
	}
	start, telling := tellingTalk()
	add("nothing", nil, nil)
	add("a start alone", start, nil)
	add("a talk", start, telling)
	add("a wrong answer", start, talkOf(telling, begun(1)))
	add("a faulty start", append(copyRecords(start), rec(-1, "x")), telling)
	committed, with, cut := cutCommit()
	add("a commit that was cut", committed, cut)
	add("a commit that was cut and came to pass", committed, talkOf(cut, cameUp(with...)))
	add("a commit that was cut and goes on", committed, talkOf(cut, cameUp(with...), begun(1), done(updates(1, 0, "x")), seen(1, 0, "x")))
	for range 6 {
		g = anyGeometry(r)
		m := anyScript(r, g, 60)
		add("any script", nil, pairs(m.steps, m.answers))
		n := len(m.steps) - 3 - r.Intn(20)
		add("a part of any script", nil, pairs(m.steps[:n], m.answers[:n]))
	}
	return list
}

func (a plainArgument) copy() plainArgument {
	a.start, a.steps = copyRecords(a.start), copySteps(a.steps)
	a.answers = slices.Clone(a.answers)
	for i, x := range a.answers {
		a.answers[i].Data, a.answers[i].Records = bytes.Clone(x.Data), copyRecords(x.Records)
	}
	return a
}

func roomyRecords(list []impl.HeapRecord) []impl.HeapRecord {
	all := append(copyRecords(list), rec(5, "behind"), rec(6, ""))
	for i, x := range all {
		all[i].Data = roomy(x.Data)
	}
	return all[:len(list)]
}

// roomy has something behind the ends of its lists too.
func (a plainArgument) roomy() plainArgument {
	c := a.copy()
	c.start = roomyRecords(c.start)
	c.steps = append(c.steps, begins(), cuts(5))
	for i, s := range c.steps {
		c.steps[i].Data, c.steps[i].Keep = roomy(s.Data), append(slices.Clone(s.Keep), 7, 7)[:len(s.Keep)]
	}
	c.answers = append(c.answers, impl.Answer{Txn: 3}, impl.Answer{Code: 4})
	for i, x := range c.answers {
		c.answers[i].Data, c.answers[i].Records = roomy(x.Data), roomyRecords(x.Records)
	}
	c.steps, c.answers = c.steps[:len(a.steps)], c.answers[:len(a.answers)]
	return c
}

func wholeRecords(list []impl.HeapRecord) []impl.HeapRecord {
	all := slices.Clone(list[:cap(list)])
	for i, x := range all {
		all[i].Data = x.Data[:cap(x.Data)]
	}
	return all
}

// whole shows what stands behind the ends of the lists too.
func (a plainArgument) whole() plainArgument {
	steps := slices.Clone(a.steps[:cap(a.steps)])
	for i, s := range steps {
		steps[i].Data, steps[i].Keep = s.Data[:cap(s.Data)], s.Keep[:cap(s.Keep)]
	}
	answers := slices.Clone(a.answers[:cap(a.answers)])
	for i, x := range answers {
		answers[i].Data, answers[i].Records = x.Data[:cap(x.Data)], wholeRecords(x.Records)
	}
	return plainArgument{name: a.name, g: a.g, start: wholeRecords(a.start), steps: steps, answers: answers}
}

func (a plainArgument) same(b plainArgument) bool {
	return sameRecords(a.start, b.start) && sameSteps(a.steps, b.steps) && slices.EqualFunc(a.answers, b.answers, sameAnswer)
}

func scribbleRecords(list []impl.HeapRecord, v byte) {
	list = list[:cap(list)]
	for i, x := range list {
		scribble(x.Data, v)
		list[i] = impl.HeapRecord{Id: int64(v)}
	}
}

func (a plainArgument) scribble(v byte) {
	scribbleRecords(a.start, v)
	for i, s := range a.steps {
		scribble(s.Data, v)
		scribbleNumbers(s.Keep, v)
		a.steps[i] = impl.Step{Kind: int64(v)}
	}
	for i, x := range a.answers {
		scribble(x.Data, v)
		scribbleRecords(x.Records, v)
		a.answers[i] = impl.Answer{Code: int64(v)}
	}
}

func scribblePlain(p impl.Plain, v byte) {
	scribbleRecords(p.Records, v)
	for i, x := range p.Txns {
		for k, w := range x.Writes {
			scribble(w.Data.Data, v)
			x.Writes[k] = impl.HeapWrite{Id: int64(v)}
		}
		p.Txns[i] = impl.PlainTxn{Txn: int64(v)}
	}
}

func TestAPlainRunChangesNoArgument(t *testing.T) {
	for _, a := range plainArguments() {
		given := a.roomy()
		kept := given.whole().copy()
		given.call()
		if !given.whole().same(kept) {
			t.Error("a plain run of", a.name, "changes an argument")
		}
	}
}

func TestAPlainRunOutlivesItsArguments(t *testing.T) {
	told := 0
	for _, a := range plainArguments() {
		given := a.roomy()
		answer := given.call()
		kept := copyPlain(answer)
		given.scribble(98)
		scribblePlain(a.call(), 97)
		if !samePlain(answer, kept) {
			t.Error("a plain run of", a.name, "keeps memory of an argument or answers the same memory twice")
		}
		told += len(answer.Records) + len(answer.Txns)
	}
	if told < 30 {
		t.Error("the runs tell too little:", told)
	}
}

// TestNoTwoListsOfAPlainRunShareMemory fills each list up to its capacity, and asks all others.
func TestNoTwoListsOfAPlainRunShareMemory(t *testing.T) {
	for _, a := range plainArguments() {
		answer := a.call()
		var lists [][]byte
		for _, x := range answer.Records {
			lists = append(lists, x.Data)
		}
		for _, x := range answer.Txns {
			for _, w := range x.Writes {
				lists = append(lists, w.Data.Data)
			}
		}
		for i, b := range lists {
			scribble(b, byte(i))
		}
		for i, b := range lists {
			if slices.ContainsFunc(b, func(x byte) bool { return x != byte(i) }) {
				t.Fatal("two lists of a plain run of", a.name, "share memory")
			}
		}
		for i, x := range answer.Txns {
			x.Writes = append(x.Writes, impl.HeapWrite{Id: 600})
			for _, y := range answer.Txns[i+1:] {
				if slices.ContainsFunc(y.Writes[:cap(y.Writes)], func(w impl.HeapWrite) bool { return w.Id == 600 }) {
					t.Fatal("two transactions of a plain run of", a.name, "share their writes")
				}
			}
		}
	}
}

func TestAPlainRunHangsOnItsArgumentsAlone(t *testing.T) {
	arguments := plainArguments()
	var want []impl.Plain
	for _, a := range arguments {
		want = append(want, a.call())
	}
	var all sync.WaitGroup
	var wrong [4]int
	for i := range wrong {
		all.Go(func() {
			for range 5 {
				for k, a := range slices.Backward(arguments) {
					if !samePlain(a.call(), want[k]) {
						wrong[i]++
					}
				}
			}
		})
	}
	all.Wait()
	if wrong != [4]int{} {
		t.Error("the same call twice, or at the same time, has another answer")
	}
}

// TestAnyPlainRunIsAnswered has numbers out of all bounds, and answers of any kind.
func TestAnyPlainRunIsAnswered(t *testing.T) {
	r := rand.New(rand.NewSource(1306))
	numbers := []int64{math.MinInt64, -1, 0, 1, 2, 3, 31, 32, 63, 64, 511, 512, greatestTxn, greatestTxn + 1, 1 << 40, math.MaxInt64}
	any := func() int64 { return numbers[r.Intn(len(numbers))] }
	anyOf := func() []impl.HeapRecord {
		var list []impl.HeapRecord
		for range r.Intn(3) {
			list = append(list, impl.HeapRecord{Id: any(), Data: someBytes(r, r.Intn(3))})
		}
		return list
	}
	for range 5000 {
		g := smallest(1 + r.Int63n(2))
		if r.Intn(9) == 0 {
			g = impl.Geometry{Pages: any(), Frames: any(), LogSectors: any()}
		}
		all := talkOf(cameUp(), begun(any()))
		for range r.Intn(6) {
			s := impl.Step{Kind: r.Int63n(12)}
			if r.Intn(3) > 0 {
				s.Txn = []int64{0, 1, any()}[r.Intn(3)]
			}
			if s.Kind > 2 && s.Kind < 6 {
				s.Id = any()
			}
			a := impl.Answer{Code: r.Int63n(13), Txn: any(), Id: any(), Used: any()}
			if r.Intn(2) == 0 {
				a = impl.Answer{Code: any()}
			}
			if r.Intn(3) == 0 {
				a.Records = anyOf()
			}
			all = append(all, exchange{s, a})
		}
		start := anyOf()[:0]
		if r.Intn(5) == 0 {
			start = anyOf()
		}
		p := runTalk(g, start, all)
		steps, _ := all.parts()
		faulty := plainGeometryFault(g) != 0 || slices.ContainsFunc(steps, func(s impl.Step) bool { return plainStepFault(s) != 0 })
		for i, x := range start {
			faulty = faulty || !within(x.Id, 0, g.Pages*slotsEach-1) || i > 0 && start[i-1].Id >= x.Id
		}
		want := impl.Plain{Code: 2}
		if !faulty {
			want = plainJudge(g, start, all)
		}
		if !samePlain(p, want) {
			t.Fatal("the talk", all, "of", g, "from", start, "has", p, "and not", want)
		}
	}
}
