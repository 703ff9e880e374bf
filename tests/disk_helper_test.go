package tests

import (
	"bytes"
	"math"
	"math/rand"

	"loop.example/s02544/impl"
)

func filled(b byte) []byte { return bytes.Repeat([]byte{b}, impl.SectorSize) }

func writeTo(sector int64, b byte) impl.SectorWrite {
	return impl.SectorWrite{Sector: sector, Data: filled(b)}
}

// marked is a disk of which the durable sector i is full of the byte 200 + i.
func marked(sectors int, pending ...impl.SectorWrite) impl.Disk {
	d := impl.Disk{Pending: pending}
	for i := range sectors {
		d.Durable = append(d.Durable, filled(byte(200+i))...)
	}
	return d
}

func manyWrites(n int, sectors int) []impl.SectorWrite {
	var list []impl.SectorWrite
	for i := range n {
		list = append(list, writeTo(int64(i%sectors), byte(i)))
	}
	return list
}

func copyWrites(list []impl.SectorWrite) []impl.SectorWrite {
	var c []impl.SectorWrite
	for _, w := range list {
		c = append(c, impl.SectorWrite{Sector: w.Sector, Data: append([]byte(nil), w.Data...)})
	}
	return c
}

func copyOf(d impl.Disk) impl.Disk {
	return impl.Disk{Durable: append([]byte(nil), d.Durable...), Pending: copyWrites(d.Pending)}
}

func copyOps(ops []impl.Op) []impl.Op {
	var c []impl.Op
	for _, o := range ops {
		c = append(c, impl.Op{Kind: o.Kind, Sector: o.Sector, Data: append([]byte(nil), o.Data...)})
	}
	return c
}

// sameDisk takes nil and the empty list for one value, as the document does.
func sameDisk(a, b impl.Disk) bool {
	if !bytes.Equal(a.Durable, b.Durable) || len(a.Pending) != len(b.Pending) {
		return false
	}
	for i, w := range a.Pending {
		if w.Sector != b.Pending[i].Sector || !bytes.Equal(w.Data, b.Pending[i].Data) {
			return false
		}
	}
	return true
}

func sameOps(a, b []impl.Op) bool {
	if len(a) != len(b) {
		return false
	}
	for i, o := range a {
		if o.Kind != b[i].Kind || o.Sector != b[i].Sector || !bytes.Equal(o.Data, b[i].Data) {
			return false
		}
	}
	return true
}

type namedDisk struct {
	name string
	disk impl.Disk
}

// faultyDisks has a disk for each reason for which one is not valid.
func faultyDisks() []namedDisk {
	good := writeTo(0, 1)
	short := impl.SectorWrite{Sector: 1, Data: filled(2)[1:]}
	long := impl.SectorWrite{Sector: 1, Data: append(filled(2), 2)}
	return []namedDisk{
		{"no sectors", impl.Disk{}},
		{"no sectors, but a write", impl.Disk{Pending: []impl.SectorWrite{good}}},
		{"empty lists", impl.Disk{Durable: []byte{}, Pending: []impl.SectorWrite{}}},
		{"a byte too few", impl.Disk{Durable: filled(3)[1:]}},
		{"a byte too many", impl.Disk{Durable: append(filled(3), 3)}},
		{"a broken second sector", impl.Disk{Durable: append(filled(3), filled(4)[1:]...), Pending: []impl.SectorWrite{good}}},
		{"a sector too many", impl.Disk{Durable: make([]byte, (impl.MaxSectors+1)*impl.SectorSize)}},
		{"a byte behind the most sectors", impl.Disk{Durable: make([]byte, impl.MaxSectors*impl.SectorSize+1)}},
		{"a write too many", marked(2, manyWrites(impl.MaxPending+1, 2)...)},
		{"a write below the first sector", marked(2, good, impl.SectorWrite{Sector: -1, Data: filled(2)})},
		{"a write behind the last sector", marked(2, good, writeTo(2, 2), good)},
		{"a write far behind", marked(2, writeTo(math.MaxInt64, 2), good)},
		{"a write far below", marked(2, writeTo(math.MinInt64, 2), good)},
		{"a short write", marked(2, good, short, good)},
		{"a long write", marked(2, good, good, long)},
		{"a write of no bytes", marked(2, impl.SectorWrite{Sector: 1}, good)},
	}
}

// anyBytes makes sectors in which no two bytes in a row tell the same, so that a shift shows.
func anyBytes(r *rand.Rand) []byte {
	b := make([]byte, impl.SectorSize)
	for i := range b {
		b[i] = byte(r.Intn(256))
	}
	return b
}

// anyOps has writes and syncs, and now and then what changes nothing.
func anyOps(r *rand.Rand, n int, sectors int) []impl.Op {
	var ops []impl.Op
	for range n {
		op := impl.Op{Kind: impl.OpWrite, Sector: int64(r.Intn(sectors)), Data: anyBytes(r)}
		switch r.Intn(12) {
		case 0:
			op = impl.Op{Kind: impl.OpSync}
		case 1:
			op.Kind = int64(r.Intn(9) - 4)
		case 2:
			op.Sector = int64(sectors + r.Intn(3))
		case 3:
			op.Sector = -1 - int64(r.Intn(3))
		case 4:
			op.Data = op.Data[:r.Intn(impl.SectorSize)]
		}
		ops = append(ops, op)
	}
	return ops
}
