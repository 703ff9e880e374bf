package tests

import (
	"bytes"
	"math"
	"math/rand"
	"slices"
	"testing"

	"loop.example/s02544/impl"
)

func TestPickMaster(t *testing.T) {
	low := impl.Master{Seq: 4, Epoch: 9, Ckpt: 900, Low: 800}
	high := impl.Master{Seq: 5, Epoch: 2, Ckpt: 700, Low: 600}
	same := impl.Master{Seq: 5, Epoch: 3, Ckpt: 1000, Low: 1000}
	most := impl.Master{Seq: greatestSeq, Epoch: 1, Ckpt: 512, Low: 512}
	faulty := laidMaster("heap", greatestSeq+1, 1, 512, 512)
	none := make([]byte, 512)
	torn := append(bytes.Clone(plainMaster(same)[:20]), plainMaster(high)[20:]...)
	told := func(slot int64, m impl.Master) impl.MasterResult {
		return impl.MasterResult{Good: true, Slot: slot, Master: m}
	}
	write := func(sector int64, m impl.Master) impl.SectorWrite {
		return impl.SectorWrite{Sector: sector, Data: plainMaster(m)}
	}
	l, h, s, g := plainMaster(low), plainMaster(high), plainMaster(same), plainMaster(most)
	for _, c := range []struct {
		name string
		disk impl.Disk
		want impl.MasterResult
	}{
		{"none", masterDisk(none, none), impl.MasterResult{}},
		{"none of bytes that are none", masterDisk(filled(1), torn), impl.MasterResult{}},
		{"the first alone", masterDisk(l, none), told(0, low)},
		{"the second alone", masterDisk(none, l), told(1, low)},
		{"the greatest first alone", masterDisk(g, none), told(0, most)},
		{"the greatest second alone", masterDisk(torn, g), told(1, most)},
		{"the first beside a torn one", masterDisk(l, torn), told(0, low)},
		{"the second beside a torn one", masterDisk(torn, l), told(1, low)},
		{"the first beside a faulty one", masterDisk(l, faulty), told(0, low)},
		{"the second beside a faulty one", masterDisk(faulty, l), told(1, low)},
		{"two faulty ones", masterDisk(faulty, faulty), impl.MasterResult{}},
		{"the greater one first", masterDisk(h, l), told(0, high)},
		{"the greater one second", masterDisk(l, h), told(1, high)},
		{"the greatest first", masterDisk(g, h), told(0, most)},
		{"the greatest second", masterDisk(h, g), told(1, most)},
		{"equal ones", masterDisk(h, h), told(0, high)},
		{"equal numbers", masterDisk(h, s), told(0, high)},
		{"equal numbers, the other way round", masterDisk(s, h), told(0, same)},
		{"equal greatest ones", masterDisk(g, g), told(0, most)},
		{"a pending one", masterDisk(none, none, write(0, low)), told(0, low)},
		{"a pending second one", masterDisk(none, none, write(1, low)), told(1, low)},
		{"a pending greater one", masterDisk(l, none, write(1, high)), told(1, high)},
		{"a pending lesser one", masterDisk(h, none, write(1, low)), told(0, high)},
		{"a pending lesser one in its place", masterDisk(h, none, write(0, low)), told(0, low)},
		{"the last of two pending ones", masterDisk(none, none, write(0, high), write(0, low)), told(0, low)},
		{"a pending write of what is none", masterDisk(l, h, writeTo(1, 0)), told(0, low)},
		{"pending writes over both", masterDisk(l, h, writeTo(1, 0), writeTo(0, 7)), impl.MasterResult{}},
		{"a pending write elsewhere", masterDisk(l, h, write(2, most)), told(1, high)},
		{"one elsewhere alone", masterDisk(none, none, write(2, most)), impl.MasterResult{}},
		{"a disk of one sector", impl.Disk{Durable: l}, told(0, low)},
		{"a disk of one sector without", impl.Disk{Durable: none}, impl.MasterResult{}},
		{"a disk of two sectors", impl.Disk{Durable: append(bytes.Clone(l), h...)}, told(1, high)},
	} {
		if got := impl.PickMaster(c.disk); got != c.want {
			t.Errorf("%s: %+v and not %+v", c.name, got, c.want)
		}
		if got := plainPick(c.disk); got != c.want {
			t.Errorf("%s: the test's own answer is %+v", c.name, got)
		}
	}
}

// TestPickMasterOfDisksThatAreNotValid lays good masters into both sectors, where there are any.
func TestPickMasterOfDisksThatAreNotValid(t *testing.T) {
	for _, d := range faultyDisks() {
		if got := impl.PickMaster(d.disk); got != (impl.MasterResult{}) {
			t.Errorf("%s: %+v", d.name, got)
		}
		c := copyOf(d.disk)
		for i, m := range goodMasters()[:2] {
			if at := i * 512; len(c.Durable) >= at+512 {
				copy(c.Durable[at:], plainMaster(m))
			}
		}
		if got := impl.PickMaster(c); got != (impl.MasterResult{}) {
			t.Errorf("%s, with masters: %+v", d.name, got)
		}
	}
}

func TestMasterOps(t *testing.T) {
	for _, m := range goodMasters() {
		for slot, other := range []int64{1, 0} {
			ops := impl.MasterOps(int64(slot), m)
			want := []impl.Op{{Kind: impl.OpWrite, Sector: other, Data: plainMaster(m)}, {Kind: impl.OpSync}}
			if !sameOps(ops, want) {
				t.Errorf("%+v beside the slot %d is told by %+v", m, slot, ops)
			}
		}
		for _, slot := range []int64{-1, 2, 3, -2, 255, 256, 1 << 32, 1<<32 + 1, math.MaxInt64, math.MinInt64, math.MinInt64 + 1} {
			if ops := impl.MasterOps(slot, m); len(ops) != 0 {
				t.Errorf("%+v beside the slot %d is told by %+v", m, slot, ops)
			}
		}
	}
	for _, m := range faultyMasters() {
		for _, slot := range []int64{-1, 0, 1, 2} {
			if ops := impl.MasterOps(slot, m); len(ops) != 0 {
				t.Errorf("the faulty %+v beside the slot %d is told by %+v", m, slot, ops)
			}
		}
	}
}

// oldMasterDisks have the good master old, durable, where it is picked; what stands beside it is lesser.
func oldMasterDisks(old impl.Master) []namedDisk {
	lesser := impl.Master{Seq: old.Seq - 1, Epoch: 1, Ckpt: 600, Low: 600}
	o, l := plainMaster(old), plainMaster(lesser)
	torn := append(bytes.Clone(l[:24]), o[24:]...)
	list := []namedDisk{
		{"an equal one beside it", masterDisk(o, o)},
		{"another one of the same number beside it", masterDisk(o, plainMaster(impl.Master{Seq: old.Seq, Epoch: 77, Ckpt: 512, Low: 512}))},
	}
	for _, beside := range [][]byte{make([]byte, 512), filled(255), l, torn} {
		list = append(list, namedDisk{"it first", masterDisk(o, beside)}, namedDisk{"it second", masterDisk(beside, o)})
	}
	return list
}

// pendingAhead are pending writes that leave the sector of the old master as it is.
func pendingAhead(slot int64, old impl.Master) [][]impl.SectorWrite {
	lesser := impl.SectorWrite{Sector: 1 - slot, Data: plainMaster(impl.Master{Seq: old.Seq - 1, Epoch: 2, Ckpt: 800, Low: 700})}
	again := impl.SectorWrite{Sector: slot, Data: plainMaster(old)}
	return [][]impl.SectorWrite{
		nil,
		{writeTo(2, 1)},
		{writeTo(2, 1), writeTo(2, 2), writeTo(2, 3)},
		{writeTo(1-slot, 5)},
		{lesser},
		{lesser, writeTo(2, 1), writeTo(1-slot, 0)},
		{again, writeTo(2, 1), lesser},
	}
}

// keptWays are all ways to keep some of so many writes.
func keptWays(n int) [][]int64 {
	var ways [][]int64
	for set := range 1 << n {
		keep := make([]int64, n)
		for i := range keep {
			keep[i] = int64(set >> i & 1)
		}
		ways = append(ways, keep)
	}
	return append(ways, nil)
}

// toldThrough cuts the telling of the new master at each place, and lets each cut crash in each way.
func toldThrough(t *testing.T, name string, d impl.Disk, old, next impl.Master) {
	t.Helper()
	picked := impl.PickMaster(d)
	if !picked.Good || picked.Master != old {
		t.Fatalf("%s: the test's own disk has %+v", name, picked)
	}
	ops := impl.MasterOps(picked.Slot, next)
	if len(ops) != 2 {
		t.Fatalf("%s: %d operations", name, len(ops))
	}
	for limit := range int64(3) {
		cut := impl.RunOps(d, ops, limit).Disk
		for _, keep := range keptWays(len(cut.Pending)) {
			got := impl.PickMaster(impl.DiskCrash(cut, keep))
			if !got.Good || got.Master != old && got.Master != next {
				t.Fatalf("%s, cut at %d, kept %v: %+v", name, limit, keep, got)
			}
			if limit == 2 && (got.Master != next || got.Slot != 1-picked.Slot) {
				t.Fatalf("%s, all done: %+v", name, got)
			}
			if limit == 0 && got != picked {
				t.Fatalf("%s, nothing done: %+v", name, got)
			}
			newKept := len(keep) > 0 && keep[len(keep)-1] == 1
			if limit == 1 && (got.Master == next) != newKept {
				t.Fatalf("%s, written and not synced, kept %v: %+v", name, keep, got)
			}
		}
	}
	if got := impl.PickMaster(impl.RunOps(d, ops, 1).Disk); got.Master != next || got.Slot != 1-picked.Slot {
		t.Fatalf("%s: a reader sees %+v", name, got)
	}
}

func TestPowerGoesInMasterOps(t *testing.T) {
	old := impl.Master{Seq: 8, Epoch: 4, Ckpt: 2000, Low: 1000}
	for _, next := range []impl.Master{
		{Seq: 9, Epoch: 4, Ckpt: 3000, Low: 1500},
		{Seq: 9, Epoch: 5, Ckpt: 2000, Low: 1000},
		{Seq: greatestSeq, Epoch: greatestEpoch, Ckpt: greatestLSN, Low: greatestLSN},
	} {
		for _, d := range oldMasterDisks(old) {
			for _, pending := range pendingAhead(impl.PickMaster(d.disk).Slot, old) {
				with := copyOf(d.disk)
				with.Pending = pending
				toldThrough(t, d.name, with, old, next)
			}
		}
	}
	toldThrough(t, "the first beside nothing", masterDisk(plainMaster(goodMasters()[0]), make([]byte, 512)), goodMasters()[0], goodMasters()[1])
}

// TestPowerGoesBehindFullPendingWrites has so many that the write makes all others durable.
func TestPowerGoesBehindFullPendingWrites(t *testing.T) {
	old, next := impl.Master{Seq: 8, Epoch: 4, Ckpt: 2000, Low: 1000}, impl.Master{Seq: 9, Epoch: 4, Ckpt: 3000, Low: 1500}
	var pending []impl.SectorWrite
	for i := range impl.MaxPending {
		pending = append(pending, writeTo(1+int64(i%2), byte(i)))
	}
	d := masterDisk(plainMaster(old), make([]byte, 512), pending...)
	ops := impl.MasterOps(impl.PickMaster(d).Slot, next)
	for limit := range int64(3) {
		cut := impl.RunOps(d, ops, limit).Disk
		all := slices.Repeat([]int64{1}, len(cut.Pending))
		lost, kept := impl.PickMaster(impl.DiskCrash(cut, nil)).Master, impl.PickMaster(impl.DiskCrash(cut, all)).Master
		want := [][2]impl.Master{{old, old}, {old, next}, {next, next}}[limit]
		if lost != want[0] || kept != want[1] {
			t.Errorf("cut at %d: %+v if all is lost, %+v if all is kept", limit, lost, kept)
		}
	}
}

// TestMasterThatIsNotGreater asks for the old one or the new one here too, and of equal ones the sector 0.
func TestMasterThatIsNotGreater(t *testing.T) {
	old := impl.Master{Seq: 8, Epoch: 4, Ckpt: 2000, Low: 1000}
	for _, next := range []impl.Master{{Seq: 8, Epoch: 9, Ckpt: 700, Low: 600}, {Seq: 7, Epoch: 9, Ckpt: 700, Low: 600}} {
		for slot, d := range []impl.Disk{masterDisk(plainMaster(old), filled(0)), masterDisk(filled(0), plainMaster(old))} {
			want := impl.MasterResult{Good: true, Slot: int64(slot), Master: old}
			if next.Seq == 8 && slot == 1 {
				want = impl.MasterResult{Good: true, Slot: 0, Master: next}
			}
			if got := impl.PickMaster(impl.RunOps(d, impl.MasterOps(int64(slot), next), -1).Disk); got != want {
				t.Errorf("%+v told beside the slot %d: %+v", next, slot, got)
			}
		}
	}
}

// TestMastersOneBehindTheOther tells many, some of them cut, with other writes between.
func TestMastersOneBehindTheOther(t *testing.T) {
	r := rand.New(rand.NewSource(65))
	for range 40 {
		first := anyMaster(r)
		first.Seq = 1 + r.Int63n(100)
		d := impl.RunOps(impl.NewDisk(4), impl.MasterOps(r.Int63n(2), first), -1).Disk
		cuts := 0
		for range 60 {
			old := impl.PickMaster(d)
			next := anyMaster(r)
			next.Seq = old.Master.Seq + 1
			for range r.Intn(4) {
				d = impl.DiskWrite(d, 2+r.Int63n(2), anyBytes(r))
			}
			limit := r.Int63n(4) - 1
			run := impl.RunOps(d, impl.MasterOps(old.Slot, next), limit)
			d = run.Disk
			if !run.Done {
				cuts++
				keep := make([]int64, len(d.Pending))
				for i := range keep {
					keep[i] = r.Int63n(2)
				}
				d = impl.DiskCrash(d, keep)
			}
			got := impl.PickMaster(d)
			if !got.Good || run.Done && got.Master != next || got.Master != old.Master && got.Master != next {
				t.Fatalf("behind %+v and %+v, cut at %d, %+v is told", old, next, limit, got)
			}
		}
		if cuts < 10 || cuts > 50 {
			t.Error("the power went", cuts, "times")
		}
	}
}

func TestAnyDiskIsPickedAsPlain(t *testing.T) {
	r := rand.New(rand.NewSource(66))
	sector := func() []byte {
		switch r.Intn(4) {
		case 0:
			return anyBytes(r)
		case 1:
			b := plainMaster(anyMaster(r))
			b[r.Intn(60)] ^= byte(r.Intn(256))
			return b
		}
		return plainMaster(anyMaster(r))
	}
	seen := map[impl.MasterResult]int{}
	for range 5000 {
		d := masterDisk(sector(), sector())
		for range r.Intn(4) {
			d.Pending = append(d.Pending, impl.SectorWrite{Sector: r.Int63n(3), Data: sector()})
		}
		got := impl.PickMaster(d)
		if got != plainPick(d) {
			t.Fatalf("%+v and not %+v", got, plainPick(d))
		}
		seen[impl.MasterResult{Good: got.Good, Slot: got.Slot}]++
		m := anyMaster(r)
		slot := r.Int63n(4) - 1
		if !sameOps(impl.MasterOps(slot, m), plainMasterOps(slot, m)) {
			t.Fatalf("%+v beside the slot %d", m, slot)
		}
	}
	for _, k := range []impl.MasterResult{{}, {Good: true}, {Good: true, Slot: 1}} {
		if seen[k] < 100 {
			t.Errorf("%+v was seen %d times", k, seen[k])
		}
	}
}
