package tests

import (
	"bytes"
	"maps"
	"slices"

	"loop.example/s02544/impl"
)

// exchange is a step and what was answered to it.
type exchange struct {
	step   impl.Step
	answer impl.Answer
}

type talk []exchange

// said is a talk of one exchange.
func said(s impl.Step, a impl.Answer) talk { return talk{{s, a}} }

func done(s impl.Step) talk               { return said(s, impl.Answer{}) }
func failed(s impl.Step, code int64) talk { return said(s, impl.Answer{Code: code}) }
func begun(txn int64) talk                { return said(begins(), impl.Answer{Txn: txn}) }
func begunAll(first, last int64) talk {
	var t talk
	for txn := first; txn <= last; txn++ {
		t = talkOf(t, begun(txn))
	}
	return t
}
func inserted(txn, id int64, data string) talk {
	return said(inserts(txn, data), impl.Answer{Id: id})
}
func seen(txn, id int64, data string) talk {
	return said(reads(txn, id), impl.Answer{Data: []byte(data)})
}
func cameUp(records ...impl.HeapRecord) talk {
	return said(restarts(), impl.Answer{Records: records})
}

func talkOf(parts ...talk) talk { return slices.Concat(parts...) }

// rec is a record, written in one line.
func rec(id int64, data string) impl.HeapRecord {
	return impl.HeapRecord{Id: id, Data: []byte(data)}
}

func recs(list ...impl.HeapRecord) []impl.HeapRecord { return list }

func wrote(id int64, data string) impl.HeapWrite {
	return impl.HeapWrite{Id: id, Data: recordOf(data)}
}

func pairs(steps []impl.Step, answers []impl.Answer) talk {
	var t talk
	for i, s := range steps {
		t = append(t, exchange{s, answers[i]})
	}
	return t
}

func (t talk) parts() ([]impl.Step, []impl.Answer) {
	var steps []impl.Step
	var answers []impl.Answer
	for _, e := range t {
		steps, answers = append(steps, e.step), append(answers, e.answer)
	}
	return steps, answers
}

func runTalk(g impl.Geometry, start []impl.HeapRecord, t talk) impl.Plain {
	steps, answers := t.parts()
	return impl.PlainRun(g, start, steps, answers)
}

func sameWrites(a, b []impl.HeapWrite) bool {
	return slices.EqualFunc(a, b, func(x, y impl.HeapWrite) bool { return x.Id == y.Id && sameRecord(x.Data, y.Data) })
}

func samePlain(a, b impl.Plain) bool {
	return a.Code == b.Code && a.Place == b.Place && sameRecords(a.Records, b.Records) &&
		slices.EqualFunc(a.Txns, b.Txns, func(x, y impl.PlainTxn) bool { return x.Txn == y.Txn && sameWrites(x.Writes, y.Writes) })
}

func isZeroPlain(p impl.Plain, code, place int64) bool {
	return samePlain(p, impl.Plain{Code: code, Place: place})
}

// history answers chapter 13 from all exchanges that were allowed so far. It keeps
// no state: each question is asked of the whole of it again.
type history struct {
	g     impl.Geometry
	start []impl.HeapRecord
	all   talk
}

// ofPower are steps that are not calls.
func ofPower(kind int64) bool { return kind >= 9 }

func wentDown(e exchange) bool {
	return e.step.Kind == 10 || e.answer.Code == codeDown && !ofPower(e.step.Kind)
}

// lastRestart is the place of the last restart that was OK; -1: there was none.
func (h history) lastRestart() int {
	for i, e := range slices.Backward(h.all) {
		if e.step.Kind == 9 && e.answer.Code == 0 {
			return i
		}
	}
	return -1
}

// session is what was exchanged since the last restart, up to where it went down.
func (h history) session() (s talk, up bool) {
	at := h.lastRestart()
	if at < 0 {
		return nil, false
	}
	s = h.all[at+1:]
	if end := slices.IndexFunc(s, wentDown); end >= 0 {
		return s[:end], false
	}
	return s, true
}

func (t talk) openTxns() []int64 {
	var open []int64
	for _, e := range t {
		switch {
		case e.answer.Code != 0:
		case e.step.Kind == 1:
			open = append(open, e.answer.Txn)
		case e.step.Kind == 6 || e.step.Kind == 7:
			open = slices.DeleteFunc(open, func(txn int64) bool { return txn == e.step.Txn })
		}
	}
	return open
}

func (t talk) writesOf(txn int64) []impl.HeapWrite {
	var list []impl.HeapWrite
	for _, e := range t {
		if e.step.Txn != txn || e.answer.Code != 0 {
			continue
		}
		switch e.step.Kind {
		case 2:
			list = append(list, impl.HeapWrite{Id: e.answer.Id, Data: impl.PageRecord{Used: true, Data: e.step.Data}})
		case 3:
			list = append(list, impl.HeapWrite{Id: e.step.Id, Data: impl.PageRecord{Used: true, Data: e.step.Data}})
		case 4:
			list = append(list, impl.HeapWrite{Id: e.step.Id})
		}
	}
	return list
}

// lockOf takes a transaction that has not ended: all its locks are still there.
func (t talk) lockOf(txn, id int64) int64 {
	mode := int64(0)
	for _, e := range t {
		k, code := e.step.Kind, e.answer.Code
		switch {
		case e.step.Txn != txn || code != 0 && code != codeAbsent:
		case k == 2 && e.answer.Id == id, (k == 3 || k == 4) && e.step.Id == id:
			mode = 2
		case k == 5 && e.step.Id == id:
			mode = max(mode, 1)
		}
	}
	return mode
}

func (t talk) othersLock(txn, id int64) int64 {
	mode := int64(0)
	for _, other := range t.openTxns() {
		if other != txn {
			mode = max(mode, t.lockOf(other, id))
		}
	}
	return mode
}

func laidOver(records []impl.HeapRecord, writes []impl.HeapWrite) []impl.HeapRecord {
	all := map[int64][]byte{}
	for _, r := range records {
		all[r.Id] = r.Data
	}
	for _, w := range writes {
		delete(all, w.Id)
		if w.Data.Used {
			all[w.Id] = w.Data.Data
		}
	}
	return recordList(all)
}

// committed takes what the last restart told, and the commits behind it.
func (h history) committed() []impl.HeapRecord {
	records := h.start
	if at := h.lastRestart(); at >= 0 {
		records = h.all[at].answer.Records
	}
	s, _ := h.session()
	for i, e := range s {
		if e.step.Kind == 6 && e.answer.Code == 0 {
			records = laidOver(records, s[:i].writesOf(e.step.Txn))
		}
	}
	return records
}

// cutWrites are those of the commit at which it went down, if it was one.
func (h history) cutWrites() []impl.HeapWrite {
	s, up := h.session()
	at := h.lastRestart() + 1 + len(s)
	if up || at >= len(h.all) {
		return nil
	}
	e := h.all[at]
	if e.step.Kind != 6 || !slices.Contains(s.openTxns(), e.step.Txn) {
		return nil
	}
	return s.writesOf(e.step.Txn)
}

func (h history) sees(txn, id int64) (impl.PageRecord, bool) {
	s, _ := h.session()
	for _, w := range slices.Backward(s.writesOf(txn)) {
		if w.Id == id {
			return w.Data, w.Data.Used
		}
	}
	for _, r := range h.committed() {
		if r.Id == id {
			return impl.PageRecord{Used: true, Data: r.Data}, true
		}
	}
	return impl.PageRecord{}, false
}

// allows asks the sentences of chapter 13 one by one.
func (h history) allows(s impl.Step, a impl.Answer) bool {
	session, up := h.session()
	bare := sameAnswer(a, impl.Answer{Code: a.Code, Used: a.Used})
	switch {
	case s.Kind == 10 || s.Kind == 11:
		return a.Code == 0 && bare
	case s.Kind == 9 && up:
		return a.Code == codeUp && bare
	case s.Kind == 9 && a.Code == 0:
		is := sameRecords(a.Records, h.committed()) || sameRecords(a.Records, laidOver(h.committed(), h.cutWrites()))
		return is && sameAnswer(a, impl.Answer{Records: a.Records, Used: a.Used})
	case s.Kind == 9:
		return (a.Code == codeDown || a.Code == codeCorrupt) && bare
	case !up || a.Code == codeDown:
		return a.Code == codeDown && bare
	case s.Kind == 8:
		return (a.Code == 0 || a.Code == codeLog) && bare
	case s.Kind == 1 && len(session.openTxns()) == mostTxns:
		return a.Code == codeTxns && bare
	case s.Kind == 1:
		for _, e := range session {
			if e.step.Kind == 1 && e.answer.Code == 0 && e.answer.Txn >= a.Txn {
				return false
			}
		}
		return within(a.Txn, 1, greatestTxn) && sameAnswer(a, impl.Answer{Txn: a.Txn, Used: a.Used})
	}
	return h.allowsCall(session, s, a)
}

// mustFail is the code that a call of a transaction has to have; 0: none.
func (h history) mustFail(session talk, s impl.Step) int64 {
	if !slices.Contains(session.openTxns(), s.Txn) {
		return codeTxn
	}
	if len(s.Data) > mostRecord {
		return codeBig
	}
	if s.Kind == 2 || s.Kind > 5 {
		return 0
	}
	if !within(s.Id, 0, h.g.Pages*slotsEach-1) {
		return codeId
	}
	if others := session.othersLock(s.Txn, s.Id); others == 2 || others == 1 && s.Kind != 5 {
		return codeConflict
	}
	if _, is := h.sees(s.Txn, s.Id); !is {
		return codeAbsent
	}
	return 0
}

func (h history) allowsCall(session talk, s impl.Step, a impl.Answer) bool {
	bare := sameAnswer(a, impl.Answer{Code: a.Code, Used: a.Used})
	if code := h.mustFail(session, s); code != 0 {
		return a.Code == code && bare
	}
	switch a.Code {
	case codeLog:
		return s.Kind <= 4 && bare
	case codeSpace:
		return (s.Kind == 2 || s.Kind == 3 && h.grows(session, s)) && bare
	case 0:
	default:
		return false
	}
	switch s.Kind {
	case 2:
		return h.isFresh(session, s.Txn, a.Id) && sameAnswer(a, impl.Answer{Id: a.Id, Used: a.Used})
	case 5:
		r, _ := h.sees(s.Txn, s.Id)
		return sameAnswer(a, impl.Answer{Data: r.Data, Used: a.Used})
	}
	return bare
}

func (h history) grows(session talk, s impl.Step) bool {
	most := 0
	for _, r := range h.committed() {
		if r.Id == s.Id {
			most = max(most, len(r.Data))
		}
	}
	for _, w := range session.writesOf(s.Txn) {
		if w.Id == s.Id {
			most = max(most, len(w.Data.Data))
		}
	}
	return len(s.Data) > most
}

func (h history) isFresh(session talk, txn, id int64) bool {
	if slices.ContainsFunc(h.committed(), func(r impl.HeapRecord) bool { return r.Id == id }) || session.othersLock(txn, id) != 0 {
		return false
	}
	for _, open := range session.openTxns() {
		if slices.ContainsFunc(session.writesOf(open), func(w impl.HeapWrite) bool { return w.Id == id }) {
			return false
		}
	}
	return within(id, 0, h.g.Pages*slotsEach-1)
}

// end is what is told of it when all is allowed.
func (h history) end() impl.Plain {
	p := impl.Plain{Place: int64(len(h.all)), Records: h.committed()}
	session, up := h.session()
	if !up {
		return p
	}
	for _, txn := range slices.Sorted(slices.Values(session.openTxns())) {
		last := map[int64]impl.PageRecord{}
		for _, w := range session.writesOf(txn) {
			last[w.Id] = w.Data
		}
		told := impl.PlainTxn{Txn: txn}
		for _, id := range slices.Sorted(maps.Keys(last)) {
			told.Writes = append(told.Writes, impl.HeapWrite{Id: id, Data: last[id]})
		}
		p.Txns = append(p.Txns, told)
	}
	return p
}

// plainJudge is PlainRun of what has no fault, by the history alone.
func plainJudge(g impl.Geometry, start []impl.HeapRecord, t talk) impl.Plain {
	h := history{g: g, start: start}
	for i, e := range t {
		if !h.allows(e.step, e.answer) {
			return impl.Plain{Code: 1, Place: int64(i)}
		}
		h.all = t[:i+1]
	}
	return h.end()
}

func copyTalk(t talk) talk {
	c := slices.Clone(t)
	for i, e := range c {
		c[i].step.Data, c[i].step.Keep = bytes.Clone(e.step.Data), slices.Clone(e.step.Keep)
		c[i].answer.Data, c[i].answer.Records = bytes.Clone(e.answer.Data), copyRecords(e.answer.Records)
	}
	return c
}

func copyPlain(p impl.Plain) impl.Plain {
	p.Records, p.Txns = copyRecords(p.Records), slices.Clone(p.Txns)
	for i, x := range p.Txns {
		p.Txns[i].Writes = slices.Clone(x.Writes)
		for k, w := range x.Writes {
			p.Txns[i].Writes[k].Data.Data = bytes.Clone(w.Data.Data)
		}
	}
	return p
}
