package tests

import (
	"bytes"
	"math"
	"math/rand"
	"testing"

	"loop.example/s02544/impl"
)

func TestNewDisk(t *testing.T) {
	for _, n := range []int64{1, 2, 1023, impl.MaxSectors} {
		d := impl.NewDisk(n)
		if !sameDisk(d, impl.Disk{Durable: make([]byte, n*512)}) || !impl.ValidDisk(d) {
			t.Error("NewDisk of", n, "sectors")
		}
	}
	for _, n := range []int64{0, -1, impl.MaxSectors + 1, math.MinInt64, math.MaxInt64, math.MaxInt64/512 + 2} {
		if !sameDisk(impl.NewDisk(n), impl.Disk{}) {
			t.Error("NewDisk of", n, "is not the zero disk")
		}
	}
}

func TestValidDisk(t *testing.T) {
	good := []namedDisk{
		{"one sector", marked(1)},
		{"a write to the first and the last sector", marked(3, writeTo(0, 1), writeTo(2, 1))},
		{"the most sectors", impl.Disk{Durable: make([]byte, 1024*512), Pending: []impl.SectorWrite{writeTo(1023, 1)}}},
		{"the most writes", marked(2, manyWrites(8192, 2)...)},
		{"an empty list of writes", impl.Disk{Durable: filled(1), Pending: []impl.SectorWrite{}}},
	}
	for _, c := range good {
		if !impl.ValidDisk(c.disk) {
			t.Error(c.name, "is valid")
		}
	}
	for _, c := range faultyDisks() {
		if impl.ValidDisk(c.disk) {
			t.Error(c.name, "is not valid")
		}
	}
}

func TestFaultyDiskStays(t *testing.T) {
	ops := []impl.Op{{Kind: impl.OpWrite, Sector: 0, Data: filled(9)}, {Kind: impl.OpSync}, {Kind: 7}}
	for _, c := range faultyDisks() {
		for _, sector := range []int64{-1, 0, 1, 2, 1024} {
			if len(impl.DiskRead(c.disk, sector)) != 0 {
				t.Error(c.name, "was read at", sector)
			}
		}
		if !sameDisk(impl.DiskWrite(c.disk, 0, filled(9)), c.disk) {
			t.Error(c.name, "was written")
		}
		if !sameDisk(impl.DiskSync(c.disk), c.disk) {
			t.Error(c.name, "was synced")
		}
		for _, keep := range [][]int64{nil, {1, 1, 1, 1}, {0, 0}} {
			if !sameDisk(impl.DiskCrash(c.disk, keep), c.disk) {
				t.Error(c.name, "crashed with", keep)
			}
		}
		for limit, used := range map[int64]int64{-1: 3, 0: 0, 1: 1, 2: 2, 3: 3, 4: 3} {
			r := impl.RunOps(c.disk, ops, limit)
			if !sameDisk(r.Disk, c.disk) || r.Used != used || r.Done != (used == 3) {
				t.Error(c.name, "with limit", limit, "gives", r.Used, r.Done)
			}
		}
	}
}

func TestReadSeesTheLastWrite(t *testing.T) {
	d := marked(4, writeTo(1, 1), writeTo(2, 2), writeTo(1, 3), writeTo(3, 4), writeTo(1, 5), writeTo(2, 6))
	for sector, want := range []byte{200, 5, 6, 4} {
		if !bytes.Equal(impl.DiskRead(d, int64(sector)), filled(want)) {
			t.Error("sector", sector, "is not full of", want)
		}
	}
	for _, sector := range []int64{-1, 4, 5, math.MinInt64, math.MaxInt64, math.MaxInt64/512 + 1} {
		if len(impl.DiskRead(d, sector)) != 0 {
			t.Error("there is no sector", sector)
		}
	}
	last := impl.Disk{Durable: make([]byte, impl.MaxSectors*512)}
	last.Durable[impl.MaxSectors*512-1] = 8
	if got := impl.DiskRead(last, impl.MaxSectors-1); len(got) != 512 || got[511] != 8 {
		t.Error("the last of the most sectors")
	}
}

func TestWriteIsPending(t *testing.T) {
	d := marked(2, writeTo(0, 1), writeTo(1, 2))
	got := impl.DiskWrite(d, 0, filled(3))
	if !sameDisk(got, marked(2, writeTo(0, 1), writeTo(1, 2), writeTo(0, 3))) {
		t.Error("a write stands behind the others")
	}
	if !bytes.Equal(impl.DiskRead(got, 0), filled(3)) || !bytes.Equal(impl.DiskRead(got, 1), filled(2)) {
		t.Error("what a reader sees behind a write")
	}
	for _, sector := range []int64{-1, 2, math.MinInt64, math.MaxInt64} {
		if !sameDisk(impl.DiskWrite(d, sector, filled(3)), d) {
			t.Error("there is no sector", sector, "to write")
		}
	}
	for _, data := range [][]byte{nil, {}, {1}, filled(3)[1:], append(filled(3), 3), append(filled(3), filled(3)...)} {
		if !sameDisk(impl.DiskWrite(d, 0, data), d) {
			t.Error("data of", len(data), "bytes were written")
		}
	}
}

func TestFullListBecomesDurableFirst(t *testing.T) {
	nearly := marked(3, manyWrites(impl.MaxPending-1, 2)...)
	full := impl.DiskWrite(nearly, 1, filled(byte(8191%256)))
	if !sameDisk(full, marked(3, manyWrites(impl.MaxPending, 2)...)) {
		t.Fatal("the last write that finds room")
	}
	durable := append(append(filled(254), filled(255)...), filled(202)...)
	want := impl.Disk{Durable: durable, Pending: []impl.SectorWrite{writeTo(0, 77)}}
	if !sameDisk(impl.DiskWrite(full, 0, filled(77)), want) {
		t.Error("a write to a full list")
	}
	r := impl.RunOps(full, []impl.Op{{Kind: impl.OpWrite, Sector: 0, Data: filled(77)}}, 1)
	if !sameDisk(r.Disk, want) || r.Used != 1 || !r.Done {
		t.Error("an operation on a full list counts as one")
	}
	if !sameDisk(impl.DiskWrite(full, 3, filled(77)), full) || !sameDisk(impl.DiskWrite(full, 0, filled(77)[1:]), full) {
		t.Error("a refused write makes nothing durable")
	}
	if !sameDisk(impl.RunOps(full, []impl.Op{{Kind: 3, Data: filled(77)}, {Kind: impl.OpWrite, Sector: -1, Data: filled(77)}}, -1).Disk, full) {
		t.Error("an operation that changes nothing makes nothing durable")
	}
	if !sameDisk(impl.DiskSync(full), impl.Disk{Durable: durable}) {
		t.Error("a sync of a full list")
	}
}

func TestSync(t *testing.T) {
	d := marked(3, writeTo(1, 1), writeTo(0, 2), writeTo(1, 3))
	got := impl.DiskSync(d)
	if !sameDisk(got, impl.Disk{Durable: append(append(filled(2), filled(3)...), filled(202)...)}) {
		t.Error("pending writes become durable in their order")
	}
	for sector := range int64(3) {
		if !bytes.Equal(impl.DiskRead(d, sector), got.Durable[sector*512:sector*512+512]) {
			t.Error("behind a sync the durable bytes of", sector, "are not what readers saw")
		}
	}
	if !sameDisk(impl.DiskSync(got), got) {
		t.Error("a sync without pending writes")
	}
}

// TestCrashKeepsAnyWrites tries all ways of keeping five writes to two sectors, told by lists of all lengths.
func TestCrashKeepsAnyWrites(t *testing.T) {
	d := marked(3, writeTo(0, 1), writeTo(2, 2), writeTo(0, 3), writeTo(2, 4), writeTo(0, 5))
	marks := []int64{1, -1, 2, math.MinInt64, 256, math.MaxInt64, 1 << 32}
	for bits := range 1 << 7 {
		for length := range 8 {
			var keep []int64
			want := []byte{200, 201, 202}
			for i := range length {
				keep = append(keep, 0)
				if bits>>i&1 == 0 {
					continue
				}
				keep[i] = marks[(bits+i)%len(marks)]
				if i < len(d.Pending) {
					want[d.Pending[i].Sector] = d.Pending[i].Data[0]
				}
			}
			durable := append(append(filled(want[0]), filled(want[1])...), filled(want[2])...)
			if !sameDisk(impl.DiskCrash(d, keep), impl.Disk{Durable: durable}) {
				t.Fatal("keep", keep, "does not leave", want)
			}
		}
	}
}

func TestCrashOfAFullList(t *testing.T) {
	d := marked(2, manyWrites(impl.MaxPending, 2)...)
	keep := make([]int64, impl.MaxPending+3)
	keep[impl.MaxPending-1], keep[10], keep[impl.MaxPending] = 1, 1, 1
	if !sameDisk(impl.DiskCrash(d, keep), impl.Disk{Durable: append(filled(10), filled(255)...)}) {
		t.Error("the last of the most writes is kept")
	}
	if !sameDisk(impl.DiskCrash(d, nil), marked(2)) {
		t.Error("all writes are lost")
	}
}

func TestOpsUpToALimit(t *testing.T) {
	d := marked(2, writeTo(0, 1))
	ops := []impl.Op{
		{Kind: impl.OpWrite, Sector: 1, Data: filled(2)},
		{Kind: 3, Sector: 1, Data: filled(3)},
		{Kind: impl.OpWrite, Sector: 2, Data: filled(4)},
		{Kind: impl.OpSync, Sector: 9, Data: filled(5)},
		{Kind: impl.OpWrite, Sector: 1, Data: filled(6)[1:]},
		{Kind: impl.OpWrite, Sector: 0, Data: filled(7)},
		{Kind: 0, Sector: 0, Data: filled(8)},
	}
	one := marked(2, writeTo(0, 1), writeTo(1, 2))
	synced := impl.Disk{Durable: append(filled(1), filled(2)...)}
	last := copyOf(synced)
	last.Pending = []impl.SectorWrite{writeTo(0, 7)}
	behind := []impl.Disk{d, one, one, one, synced, synced, last, last}
	limits := map[int64]int64{-1: 7, -2: 7, math.MinInt64: 7, 8: 7, math.MaxInt64: 7}
	for n := range int64(8) {
		limits[n] = n
	}
	for limit, used := range limits {
		r := impl.RunOps(d, ops, limit)
		if r.Used != used || r.Done != (used == 7) || !sameDisk(r.Disk, behind[used]) {
			t.Error("limit", limit, "gives", r.Used, r.Done)
		}
	}
	for _, limit := range []int64{-1, 0, 1} {
		r := impl.RunOps(d, nil, limit)
		if r.Used != 0 || !r.Done || !sameDisk(r.Disk, d) {
			t.Error("no operations with limit", limit)
		}
	}
}

func TestOpsOfAnotherKind(t *testing.T) {
	d := marked(2, writeTo(0, 1))
	for _, kind := range []int64{0, -1, 3, 257, 1<<32 + 1, 1<<32 + 2, math.MinInt64, math.MaxInt64} {
		r := impl.RunOps(d, []impl.Op{{Kind: kind, Sector: 1, Data: filled(2)}}, -1)
		if r.Used != 1 || !r.Done || !sameDisk(r.Disk, d) {
			t.Error("an operation of the kind", kind)
		}
	}
}

// TestOpsAreWritesAndSyncs holds RunOps against the single calls, and these against plain lists of sectors.
func TestOpsAreWritesAndSyncs(t *testing.T) {
	r := rand.New(rand.NewSource(1))
	for round := range 40 {
		sectors := 1 + round%5
		d := impl.NewDisk(int64(sectors))
		seen, durable := make([][]byte, sectors), make([][]byte, sectors)
		for i := range sectors {
			seen[i], durable[i] = make([]byte, 512), make([]byte, 512)
		}
		ops := anyOps(r, 30, sectors)
		for i, op := range ops {
			switch op.Kind {
			case impl.OpWrite:
				d = impl.DiskWrite(d, op.Sector, op.Data)
				if op.Sector >= 0 && op.Sector < int64(sectors) && len(op.Data) == 512 {
					seen[op.Sector] = op.Data
				}
			case impl.OpSync:
				d = impl.DiskSync(d)
				copy(durable, seen)
			}
			got := impl.RunOps(impl.NewDisk(int64(sectors)), ops, int64(i+1))
			if !sameDisk(got.Disk, d) || got.Used != int64(i+1) || got.Done != (i == 29) {
				t.Fatal("round", round, "operation", i)
			}
			if !bytes.Equal(d.Durable, bytes.Join(durable, nil)) {
				t.Fatal("durable bytes in round", round, "behind operation", i)
			}
			for s := range sectors {
				if !bytes.Equal(impl.DiskRead(d, int64(s)), seen[s]) {
					t.Fatal("a reader of", s, "in round", round, "behind operation", i)
				}
			}
		}
	}
}

func TestOpsInTwoParts(t *testing.T) {
	r := rand.New(rand.NewSource(2))
	for round := range 30 {
		sectors := 1 + round%4
		start := marked(sectors, manyWrites(round%6, sectors)...)
		ops := anyOps(r, 12, sectors)
		whole := impl.RunOps(start, ops, -1)
		for cut := range len(ops) + 1 {
			first := impl.RunOps(start, ops[:cut], -1)
			second := impl.RunOps(first.Disk, ops[cut:], -1)
			if !sameDisk(second.Disk, whole.Disk) || first.Used+second.Used != whole.Used || !first.Done || !second.Done {
				t.Fatal("round", round, "in two parts at", cut)
			}
			limited := impl.RunOps(start, ops, int64(cut))
			if !sameDisk(limited.Disk, first.Disk) || limited.Used != first.Used {
				t.Fatal("round", round, "limit", cut)
			}
		}
	}
}

// TestOpsInTwoPartsAroundAFullList has the list of writes fill up within the operations.
func TestOpsInTwoPartsAroundAFullList(t *testing.T) {
	start := marked(2, manyWrites(impl.MaxPending-2, 2)...)
	ops := anyOps(rand.New(rand.NewSource(3)), 8, 2)
	ops = append(ops, impl.Op{Kind: impl.OpWrite, Sector: 1, Data: filled(9)}, impl.Op{Kind: impl.OpWrite, Sector: 0, Data: filled(8)})
	whole := impl.RunOps(start, ops, -1)
	if len(whole.Disk.Pending) >= impl.MaxPending-2 {
		t.Fatal("the list did not fill up")
	}
	for cut := range len(ops) + 1 {
		first := impl.RunOps(start, ops, int64(cut))
		if !sameDisk(impl.RunOps(first.Disk, ops[cut:], -1).Disk, whole.Disk) {
			t.Error("in two parts at", cut)
		}
	}
}
