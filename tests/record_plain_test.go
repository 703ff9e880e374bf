package tests

import (
	"encoding/binary"

	"loop.example/s02544/impl"
)

// plainReading goes through bytes by a place, and is spoilt by the first part that is not there.
type plainReading struct {
	b      []byte
	at     int
	spoilt bool
}

func (p *plainReading) bytes(n int) []byte {
	if p.spoilt || p.at+n > len(p.b) {
		p.spoilt = true
		return make([]byte, n)
	}
	p.at += n
	return p.b[p.at-n : p.at]
}

func (p *plainReading) get1() int64 { return int64(p.bytes(1)[0]) }
func (p *plainReading) get2() int64 { return int64(binary.BigEndian.Uint16(p.bytes(2))) }
func (p *plainReading) get4() int64 { return int64(binary.BigEndian.Uint32(p.bytes(4))) }

func (p *plainReading) get8() int64 {
	v := binary.BigEndian.Uint64(p.bytes(8))
	p.spoilt = p.spoilt || v > 1<<62
	return int64(v)
}

func (p *plainReading) slot() impl.PageRecord {
	switch p.get1() {
	case 0:
		return impl.PageRecord{}
	case 1:
		return impl.PageRecord{Used: true, Data: p.bytes(int(p.get2()))}
	}
	p.spoilt = true
	return impl.PageRecord{}
}

// plainDecode tells the record that the bytes are, and whether they are one.
func plainDecode(b []byte) (impl.LogRecord, bool) {
	p := &plainReading{b: b}
	r := impl.LogRecord{Kind: p.get1()}
	r.Txn = p.get4()
	r.Prev = p.get8()
	switch r.Kind {
	case 1, 2:
		r.Page = p.get2()
		r.Slot = p.get2()
		if r.Kind == 1 {
			r.Before = p.slot()
		}
		r.After = p.slot()
		if r.Kind == 2 {
			r.UndoNext = p.get8()
		}
	case 7:
		p.tables(&r)
	case 8:
		r.Page = p.get2()
		r.Image = p.bytes(4096)
	}
	if p.spoilt || p.at != len(b) || plainRecordFault(r) != 0 {
		return impl.LogRecord{}, false
	}
	return r, true
}

func (p *plainReading) tables(r *impl.LogRecord) {
	r.NextTxn = p.get4()
	for n := p.get1(); n > 0; n-- {
		e := impl.TxnEntry{Txn: p.get4()}
		e.State = p.get1()
		e.Last = p.get8()
		e.UndoNext = p.get8()
		r.Txns = append(r.Txns, e)
	}
	for n := p.get1(); n > 0; n-- {
		e := impl.DirtyEntry{Page: p.get2()}
		e.RecLSN = p.get8()
		r.Dirty = append(r.Dirty, e)
	}
}

// plainFrameCode is what DecodeFrame has to tell of any bytes.
func plainFrameCode(b []byte, lsn, least, most int64) int64 {
	if len(b) < 20 {
		return 1
	}
	told := int64(binary.BigEndian.Uint32(b))
	if told < 33 || told > 4131 || told > int64(len(b)) {
		return 1
	}
	if int64(binary.BigEndian.Uint32(b[4:])) != plainSum(b[8:told]) {
		return 2
	}
	if lsn < 0 || binary.BigEndian.Uint64(b[8:]) != uint64(lsn) {
		return 3
	}
	if !within(int64(binary.BigEndian.Uint32(b[16:])), least, most) {
		return 4
	}
	if _, good := plainDecode(b[20:told]); !good {
		return 5
	}
	return 0
}
