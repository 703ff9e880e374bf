package tests

import (
	"bytes"
	"fmt"
	"maps"
	"slices"

	"loop.example/s02544/impl"
)

// mapTxn is a transaction of a plain map: what it wrote last to each id, the most
// bytes that it wrote there, and its locks.
type mapTxn struct {
	writes  map[int64]impl.PageRecord
	longest map[int64]int
	locks   map[int64]int64
}

// plainMap is what an honest engine must look like from outside: it knows nothing
// of pages, logs and disks.
type plainMap struct {
	g         impl.Geometry
	up        bool
	told      int64
	committed map[int64][]byte
	open      map[int64]*mapTxn
	cut       *mapTxn
}

func newPlainMap(g impl.Geometry) *plainMap {
	return &plainMap{g: g, committed: map[int64][]byte{}, open: map[int64]*mapTxn{}}
}

// mapAllows tells why the answers are not those of an honest run; no text, if they are.
func mapAllows(g impl.Geometry, steps []impl.Step, answers []impl.Answer) string {
	m := newPlainMap(g)
	for i, s := range steps {
		if why := m.take(s, answers[i]); why != "" {
			return fmt.Sprintf("step %d (kind %d, txn %d, id %d) is answered %d: %s", i, s.Kind, s.Txn, s.Id, answers[i].Code, why)
		}
	}
	return ""
}

func recordList(records map[int64][]byte) []impl.HeapRecord {
	var list []impl.HeapRecord
	for _, id := range slices.Sorted(maps.Keys(records)) {
		list = append(list, impl.HeapRecord{Id: id, Data: records[id]})
	}
	return list
}

func (m *plainMap) with(t *mapTxn) map[int64][]byte {
	all := maps.Clone(m.committed)
	for id, w := range t.writes {
		if w.Used {
			all[id] = w.Data
		} else {
			delete(all, id)
		}
	}
	return all
}

func (m *plainMap) sees(t *mapTxn, id int64) impl.PageRecord {
	if w, ok := t.writes[id]; ok {
		return w
	}
	data, ok := m.committed[id]
	return impl.PageRecord{Used: ok, Data: data}
}

func (m *plainMap) down() {
	m.up, m.open = false, map[int64]*mapTxn{}
}

func (m *plainMap) take(s impl.Step, a impl.Answer) string {
	bare := impl.Answer{Code: a.Code, Used: a.Used}
	switch {
	case s.Kind == 10:
		m.down()
		return unlike(a, impl.Answer{Used: 0})
	case s.Kind == 11:
		return unlike(a, impl.Answer{Used: 0})
	case s.Kind == 9:
		return m.restart(a)
	case !m.up:
		return unlike(a, impl.Answer{Code: codeDown})
	case a.Code == codeDown:
		if t := m.open[s.Txn]; t != nil && s.Kind == 6 {
			m.cut = t
		}
		m.down()
		return unlike(a, bare)
	case s.Kind == 8:
		if a.Code != 0 && a.Code != codeLog {
			return "no such code of a checkpoint"
		}
		return unlike(a, bare)
	case s.Kind == 1:
		return m.begin(a)
	}
	return m.ofTxn(s, a)
}

func unlike(a, want impl.Answer) string {
	if !sameAnswer(a, want) {
		return fmt.Sprint("not ", want, " but ", a)
	}
	return ""
}

func (m *plainMap) restart(a impl.Answer) string {
	if m.up {
		return unlike(a, impl.Answer{Code: codeUp})
	}
	if a.Code == codeDown {
		return unlike(a, impl.Answer{Code: codeDown, Used: a.Used})
	}
	if a.Code != 0 {
		return "a restart that is not cut must be OK"
	}
	if !sameRecords(a.Records, recordList(m.committed)) {
		if m.cut == nil || !sameRecords(a.Records, recordList(m.with(m.cut))) {
			return fmt.Sprint("records ", a.Records, " in the place of ", recordList(m.committed))
		}
		m.committed = m.with(m.cut)
	}
	m.up, m.cut, m.told = true, nil, 0
	return unlike(a, impl.Answer{Records: a.Records, Used: a.Used})
}

func (m *plainMap) begin(a impl.Answer) string {
	if len(m.open) == mostTxns {
		return unlike(a, impl.Answer{Code: codeTxns})
	}
	if !within(a.Txn, m.told+1, greatestTxn) {
		return fmt.Sprint("the transaction ", a.Txn)
	}
	m.told = a.Txn
	m.open[a.Txn] = &mapTxn{writes: map[int64]impl.PageRecord{}, longest: map[int64]int{}, locks: map[int64]int64{}}
	return unlike(a, impl.Answer{Txn: a.Txn})
}

// refusal is what 12.3 asks for ahead of all that hangs on room.
func (m *plainMap) refusal(s impl.Step) int64 {
	t := m.open[s.Txn]
	switch {
	case t == nil:
		return codeTxn
	case s.Kind >= 6:
		return 0
	case len(s.Data) > mostRecord:
		return codeBig
	case s.Kind == 2:
		return 0
	case !within(s.Id, 0, m.g.Pages*slotsEach-1):
		return codeId
	}
	for txn, other := range m.open {
		if held := other.locks[s.Id]; txn != s.Txn && (held == 2 || held == 1 && s.Kind != 5) {
			return codeConflict
		}
	}
	if !m.sees(t, s.Id).Used {
		return codeAbsent
	}
	return 0
}

func (m *plainMap) ofTxn(s impl.Step, a impl.Answer) string {
	t, refused := m.open[s.Txn], m.refusal(s)
	mode := int64(2)
	if s.Kind == 5 {
		mode = 1
	}
	if refused == codeAbsent {
		t.locks[s.Id] = max(t.locks[s.Id], mode)
	}
	if refused != 0 {
		return unlike(a, impl.Answer{Code: refused})
	}
	switch {
	case a.Code == codeSpace && (s.Kind == 2 || s.Kind == 3 && len(s.Data) > max(t.longest[s.Id], len(m.committed[s.Id]))):
		return unlike(a, impl.Answer{Code: codeSpace})
	case a.Code == codeLog && s.Kind < 5:
		return unlike(a, impl.Answer{Code: codeLog})
	case a.Code != 0:
		return "no such code here"
	}
	want := impl.Answer{Used: a.Used}
	switch s.Kind {
	case 2:
		if why := m.freshFor(s.Txn, a.Id); why != "" {
			return why
		}
		want.Id = a.Id
		t.write(a.Id, impl.PageRecord{Used: true, Data: s.Data})
	case 3:
		t.write(s.Id, impl.PageRecord{Used: true, Data: s.Data})
	case 4:
		t.write(s.Id, impl.PageRecord{})
	case 5:
		t.locks[s.Id] = max(t.locks[s.Id], mode)
		want.Data = m.sees(t, s.Id).Data
	case 6:
		m.committed = m.with(t)
		delete(m.open, s.Txn)
	case 7:
		delete(m.open, s.Txn)
	}
	return unlike(a, want)
}

func (t *mapTxn) write(id int64, r impl.PageRecord) {
	t.writes[id] = impl.PageRecord{Used: r.Used, Data: bytes.Clone(r.Data)}
	t.longest[id] = max(t.longest[id], len(r.Data))
	t.locks[id] = 2
}

func (m *plainMap) freshFor(txn, id int64) string {
	_, is := m.committed[id]
	for other, t := range m.open {
		_, wrote := t.writes[id]
		is = is || wrote || other != txn && t.locks[id] != 0
	}
	if is || !within(id, 0, m.g.Pages*slotsEach-1) {
		return fmt.Sprint("the id ", id, " is not free")
	}
	return ""
}
