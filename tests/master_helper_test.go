package tests

import (
	"bytes"
	"encoding/binary"
	"math"
	"math/rand"

	"loop.example/s02544/impl"
)

const greatestSeq = 1099511627776

func plainMasterFault(m impl.Master) int64 {
	switch {
	case !within(m.Seq, 1, greatestSeq):
		return 1
	case !within(m.Epoch, 1, greatestEpoch):
		return 2
	case !within(m.Ckpt, 512, greatestLSN) || !within(m.Low, 512, m.Ckpt):
		return 3
	}
	return 0
}

// laidMaster is a sector with a right sum, whatever the numbers are.
func laidMaster(mark string, seq uint64, epoch uint32, ckpt, low uint64) []byte {
	b := []byte(mark)
	b = binary.BigEndian.AppendUint64(b, seq)
	b = binary.BigEndian.AppendUint32(b, epoch)
	b = binary.BigEndian.AppendUint64(b, ckpt)
	b = binary.BigEndian.AppendUint64(b, low)
	b = put4(b, plainSum(b))
	return append(b, make([]byte, sectorSize-len(b))...)
}

func plainMaster(m impl.Master) []byte {
	return laidMaster("heap", uint64(m.Seq), uint32(m.Epoch), uint64(m.Ckpt), uint64(m.Low))
}

// resealed has the sum that the bytes ahead of it ask for.
func resealed(b []byte) []byte {
	c := bytes.Clone(b)
	binary.BigEndian.PutUint32(c[32:], uint32(plainSum(c[:32])))
	return c
}

func plainReadMaster(b []byte) impl.MasterResult {
	if len(b) != sectorSize || string(b[:4]) != "heap" {
		return impl.MasterResult{}
	}
	if int64(binary.BigEndian.Uint32(b[32:])) != plainSum(b[:32]) || !bytes.Equal(b[36:], make([]byte, 476)) {
		return impl.MasterResult{}
	}
	seq, ckpt, low := binary.BigEndian.Uint64(b[4:]), binary.BigEndian.Uint64(b[16:]), binary.BigEndian.Uint64(b[24:])
	if max(seq, ckpt, low) > math.MaxInt64 {
		return impl.MasterResult{}
	}
	m := impl.Master{Seq: int64(seq), Epoch: int64(binary.BigEndian.Uint32(b[12:])), Ckpt: int64(ckpt), Low: int64(low)}
	if plainMasterFault(m) != 0 {
		return impl.MasterResult{}
	}
	return impl.MasterResult{Good: true, Master: m}
}

func plainPick(d impl.Disk) impl.MasterResult {
	if !impl.ValidDisk(d) {
		return impl.MasterResult{}
	}
	view := plainView(d)
	first, second := plainReadMaster(view[:sectorSize]), impl.MasterResult{}
	if len(view) > sectorSize {
		second = plainReadMaster(view[sectorSize : 2*sectorSize])
	}
	if second.Good && (!first.Good || second.Master.Seq > first.Master.Seq) {
		second.Slot = 1
		return second
	}
	return first
}

func plainMasterOps(slot int64, m impl.Master) []impl.Op {
	if plainMasterFault(m) != 0 {
		return nil
	}
	switch slot {
	case 0:
		return []impl.Op{{Kind: 1, Sector: 1, Data: plainMaster(m)}, {Kind: 2}}
	case 1:
		return []impl.Op{{Kind: 1, Sector: 0, Data: plainMaster(m)}, {Kind: 2}}
	}
	return nil
}

// goodMasters have each field at its ends.
func goodMasters() []impl.Master {
	return []impl.Master{
		{Seq: 1, Epoch: 1, Ckpt: 512, Low: 512},
		{Seq: 2, Epoch: 1, Ckpt: 513, Low: 512},
		{Seq: 3, Epoch: 2, Ckpt: 513, Low: 513},
		{Seq: 255, Epoch: 256, Ckpt: 70000, Low: 65535},
		{Seq: 1 << 32, Epoch: 1 << 31, Ckpt: 1 << 33, Low: 1 << 32},
		{Seq: greatestSeq - 1, Epoch: greatestEpoch - 1, Ckpt: greatestLSN - 1, Low: 512},
		{Seq: greatestSeq, Epoch: 1, Ckpt: 512, Low: 512},
		{Seq: 1, Epoch: greatestEpoch, Ckpt: 512, Low: 512},
		{Seq: 1, Epoch: 1, Ckpt: greatestLSN, Low: 512},
		{Seq: greatestSeq, Epoch: greatestEpoch, Ckpt: greatestLSN, Low: greatestLSN},
		// The bytes of the fields are all different, so that none takes another's place.
		{Seq: 0x0102030405, Epoch: 0x06070809, Ckpt: 0x1a1b1c1d1e, Low: 0x0a0b0c0d0e},
	}
}

// masterBreaks are changes to a master without fault, by the code that each gives.
func masterBreaks() map[int64][]func(m *impl.Master) {
	breaks := map[int64][]func(m *impl.Master){}
	for _, v := range []int64{0, -1, greatestSeq + 1, greatestSeq + 2, math.MaxInt64, math.MinInt64, -greatestSeq} {
		breaks[1] = append(breaks[1], func(m *impl.Master) { m.Seq = v })
	}
	for _, v := range []int64{0, -1, greatestEpoch + 1, greatestEpoch + 2, greatestSeq, math.MaxInt64, math.MinInt64} {
		breaks[2] = append(breaks[2], func(m *impl.Master) { m.Epoch = v })
	}
	for _, v := range []int64{511, 0, 1, -1, math.MinInt64} {
		breaks[3] = append(breaks[3],
			func(m *impl.Master) { m.Low = v },
			func(m *impl.Master) { m.Ckpt = v },
			func(m *impl.Master) { m.Low, m.Ckpt = v, v })
	}
	for _, v := range []int64{greatestLSN + 1, math.MaxInt64} {
		breaks[3] = append(breaks[3],
			func(m *impl.Master) { m.Low = v },
			func(m *impl.Master) { m.Ckpt = v },
			func(m *impl.Master) { m.Low, m.Ckpt = v, v })
	}
	breaks[3] = append(breaks[3],
		func(m *impl.Master) { m.Low = m.Ckpt + 1 },
		func(m *impl.Master) { m.Low, m.Ckpt = 601, 600 },
		func(m *impl.Master) { m.Low, m.Ckpt = 512, 511 },
		func(m *impl.Master) { m.Low, m.Ckpt = math.MaxInt64, math.MinInt64 },
		func(m *impl.Master) { m.Low, m.Ckpt = math.MinInt64, math.MaxInt64 })
	return breaks
}

// faultyMasters have one fault each, and the zero value all of them.
func faultyMasters() []impl.Master {
	list := []impl.Master{{}}
	for code := int64(1); code <= 3; code++ {
		for _, change := range masterBreaks()[code] {
			m := impl.Master{Seq: 7, Epoch: 3, Ckpt: 700, Low: 600}
			change(&m)
			list = append(list, m)
		}
	}
	return list
}

func anyMaster(r *rand.Rand) impl.Master {
	m := impl.Master{Seq: 1 + r.Int63n(greatestSeq), Epoch: 1 + r.Int63n(greatestEpoch), Low: 512 + r.Int63n(greatestLSN-511)}
	if r.Intn(2) == 0 {
		m.Seq, m.Epoch, m.Low = 1+r.Int63n(5), 1+r.Int63n(5), 512+r.Int63n(2000)
	}
	m.Ckpt = m.Low + r.Int63n(greatestLSN-m.Low+1)
	if r.Intn(4) == 0 {
		m.Ckpt = m.Low
	}
	return m
}

// masterDisk has these durable bytes in the sectors 0 and 1, and one sector more.
func masterDisk(first, second []byte, pending ...impl.SectorWrite) impl.Disk {
	return impl.Disk{Durable: bytes.Join([][]byte{first, second, filled(9)}, nil), Pending: pending}
}
