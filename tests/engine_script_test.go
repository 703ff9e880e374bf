package tests

import (
	"maps"
	"math/rand"
	"slices"

	"loop.example/s02544/impl"
)

// scriptMaker makes scripts that go deep: it leads a plain engine along, to name
// transactions and ids that there are.
type scriptMaker struct {
	r       *rand.Rand
	e       *plainEngine
	steps   []impl.Step
	answers []impl.Answer
	data    int
	// How often, of a hundred steps, the power is cut; and how long records are.
	cutting int
	length  func(r *rand.Rand) int
}

func newScriptMaker(r *rand.Rand, g impl.Geometry) *scriptMaker {
	lengths := []func(r *rand.Rand) int{
		anyLength,
		func(r *rand.Rand) int { return r.Intn(20) },
		func(r *rand.Rand) int { return 700 + r.Intn(300) },
	}
	return &scriptMaker{r: r, e: newPlainEngine(g, impl.Format(g)), cutting: r.Intn(12), length: lengths[r.Intn(3)]}
}

func (m *scriptMaker) do(s impl.Step) impl.Answer {
	if m.data+len(s.Data) > mostStepData {
		s.Data = nil
	}
	m.data += len(s.Data)
	a := m.e.step(s)
	m.steps, m.answers = append(m.steps, s), append(m.answers, a)
	return a
}

// txn is mostly one that has not ended.
func (m *scriptMaker) txn() int64 {
	open := slices.Sorted(maps.Keys(m.e.open))
	if len(open) == 0 || m.r.Intn(30) == 0 {
		return m.r.Int63n(20) - 2
	}
	return open[m.r.Intn(len(open))]
}

// id is mostly one that has a record.
func (m *scriptMaker) id() int64 {
	var used []int64
	for id, length := range m.e.lengths {
		if length >= 0 {
			used = append(used, int64(id))
		}
	}
	if len(used) == 0 || m.r.Intn(15) == 0 {
		return m.r.Int63n(m.e.g.Pages*slotsEach+4) - 2
	}
	return used[m.r.Intn(len(used))]
}

func (m *scriptMaker) bytes() string {
	if m.r.Intn(60) == 0 {
		return string(make([]byte, mostRecord+1))
	}
	return string(someBytes(m.r, m.length(m.r)))
}

func (m *scriptMaker) goOn() {
	if m.r.Intn(100) < m.cutting {
		m.do(cuts(int64(m.r.Intn(40)) - 1))
		return
	}
	if !m.e.up {
		m.goOnDown()
		return
	}
	switch k := m.r.Intn(100); {
	case k < 8 || len(m.e.open) == 0:
		m.do(begins())
	case k < 33:
		m.do(inserts(m.txn(), m.bytes()))
	case k < 58:
		m.do(updates(m.txn(), m.id(), m.bytes()))
	case k < 66:
		m.do(deletes(m.txn(), m.id()))
	case k < 79:
		m.do(reads(m.txn(), m.id()))
	case k < 86:
		m.do(commits(m.txn()))
	case k < 91:
		m.do(aborts(m.txn()))
	case k < 97:
		m.do(checkpoints())
	case k < 98:
		m.do(restarts())
	default:
		m.do(crashes(anyKeep(m.r, len(m.e.disk.Pending))...))
	}
}

func (m *scriptMaker) goOnDown() {
	switch k := m.r.Intn(20); {
	case k < 10:
		m.do(restarts())
	case k < 17:
		m.do(crashes(anyKeep(m.r, len(m.e.disk.Pending))...))
	case k < 19:
		m.do(cuts(int64(m.r.Intn(60)) - 1))
	default:
		m.do([]impl.Step{begins(), inserts(1, "x"), reads(1, 0), commits(1), checkpoints()}[m.r.Intn(5)])
	}
}

// fill has records in all pages, of which few fit into one.
func (m *scriptMaker) fill() {
	m.do(restarts())
	txn := m.do(begins()).Txn
	for {
		switch m.do(inserts(txn, string(someBytes(m.r, 800+m.r.Intn(200))))).Code {
		case codeSpace:
			m.do(commits(txn))
			return
		case codeLog:
			m.do(commits(txn))
			m.do(checkpoints())
			txn = m.do(begins()).Txn
		}
	}
}

// anyScript ends with a restart that is not cut.
func anyScript(r *rand.Rand, g impl.Geometry, length int) *scriptMaker {
	m := newScriptMaker(r, g)
	if r.Intn(2) == 0 {
		m.fill()
	}
	for len(m.steps) < length {
		m.goOn()
	}
	m.do(cuts(-1))
	m.do(crashes(anyKeep(r, len(m.e.disk.Pending))...))
	m.do(restarts())
	return m
}

// anyGeometry is small, so that its pages, its frames and its log are soon full.
func anyGeometry(r *rand.Rand) impl.Geometry {
	pages := 1 + r.Int63n(6)
	g := impl.Geometry{Pages: pages, Frames: 3 + r.Int63n(2), LogSectors: leastLog(pages)}
	if r.Intn(3) == 0 {
		g.LogSectors += r.Int63n(40)
	}
	return g
}
