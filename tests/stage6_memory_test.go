package tests

import (
	"bytes"
	"math"
	"math/rand"
	"sync"
	"testing"

	"loop.example/s02544/impl"
)

// masterArgument has what the calls of chapter 6 take.
type masterArgument struct {
	name   string
	disk   impl.Disk
	sector []byte
	master impl.Master
	slot   int64
}

// masterAnswer is the answer of any of them.
type masterAnswer struct {
	code   int64
	sector []byte
	result impl.MasterResult
	ops    []impl.Op
}

func (a masterArgument) copy() masterArgument {
	a.disk = copyOf(a.disk)
	a.sector = append([]byte(nil), a.sector...)
	return a
}

// roomy has lists that have something behind their ends too.
func (a masterArgument) roomy() masterArgument {
	pending := append(copyWrites(a.disk.Pending), writeTo(0, 66), writeTo(1, 67))
	for i := range pending {
		pending[i].Data = roomy(pending[i].Data)
	}
	a.disk = impl.Disk{Durable: roomy(a.disk.Durable), Pending: pending[:len(a.disk.Pending)]}
	a.sector = roomy(a.sector)
	return a
}

// whole shows what stands behind the ends of the lists too.
func (a masterArgument) whole() masterArgument {
	pending := append([]impl.SectorWrite(nil), a.disk.Pending[:cap(a.disk.Pending)]...)
	for i, w := range pending {
		pending[i].Data = w.Data[:cap(w.Data)]
	}
	a.disk = impl.Disk{Durable: a.disk.Durable[:cap(a.disk.Durable)], Pending: pending}
	a.sector = a.sector[:cap(a.sector)]
	return a
}

func (a masterArgument) same(b masterArgument) bool {
	return sameDisk(a.disk, b.disk) && bytes.Equal(a.sector, b.sector)
}

func (a masterArgument) scribble(v byte) {
	scribbleDisk(a.disk, v)
	scribble(a.sector, v)
}

func (a masterAnswer) copy() masterAnswer {
	a.sector = append([]byte(nil), a.sector...)
	a.ops = copyOps(a.ops)
	return a
}

func (a masterAnswer) same(b masterAnswer) bool {
	return a.code == b.code && bytes.Equal(a.sector, b.sector) && a.result == b.result && sameOps(a.ops, b.ops)
}

func (a masterAnswer) scribble(v byte) {
	scribble(a.sector, v)
	for _, op := range a.ops {
		scribble(op.Data, v)
	}
	ops := a.ops[:cap(a.ops)]
	for i := range ops {
		ops[i] = impl.Op{Kind: int64(v), Sector: int64(v)}
	}
}

func masterCalls() map[string]func(a masterArgument) masterAnswer {
	return map[string]func(a masterArgument) masterAnswer{
		"MasterFault": func(a masterArgument) masterAnswer {
			return masterAnswer{code: impl.MasterFault(a.master)}
		},
		"EncodeMaster": func(a masterArgument) masterAnswer {
			return masterAnswer{sector: impl.EncodeMaster(a.master)}
		},
		"DecodeMaster": func(a masterArgument) masterAnswer {
			return masterAnswer{result: impl.DecodeMaster(a.sector)}
		},
		"PickMaster": func(a masterArgument) masterAnswer {
			return masterAnswer{result: impl.PickMaster(a.disk)}
		},
		"MasterOps": func(a masterArgument) masterAnswer {
			return masterAnswer{ops: impl.MasterOps(a.slot, a.master)}
		},
	}
}

func masterArguments() []masterArgument {
	var list []masterArgument
	for i, m := range goodMasters() {
		next := goodMasters()[(i+1)%len(goodMasters())]
		d := masterDisk(plainMaster(m), plainMaster(next))
		list = append(list, masterArgument{"a good master", d, plainMaster(m), m, int64(i % 2)})
		// The data of the pending writes stand in one array with the durable bytes.
		all := bytes.Join([][]byte{plainMaster(next), plainMaster(m), make([]byte, 1024)}, nil)
		pending := impl.Disk{Durable: all[1024:], Pending: []impl.SectorWrite{{Sector: 0, Data: all[:512]}, {Sector: 1, Data: all[512:1024]}}}
		list = append(list, masterArgument{"pending masters", pending, all[:512], next, int64(i % 2)})
	}
	good := list[0]
	for _, m := range faultyMasters() {
		a := good
		a.name, a.master, a.sector = "a faulty master", m, plainMaster(m)
		list = append(list, a)
	}
	for _, d := range faultyDisks() {
		a := good
		a.name, a.disk = d.name, d.disk
		list = append(list, a)
	}
	for _, slot := range []int64{-1, 2, math.MaxInt64, math.MinInt64} {
		a := good
		a.name, a.slot, a.sector = "a slot that is none", slot, a.sector[:100]
		list = append(list, a)
	}
	return append(list, masterArgument{name: "nothing"})
}

func TestMastersChangeNoArgument(t *testing.T) {
	for _, a := range masterArguments() {
		for name, call := range masterCalls() {
			given := a.roomy()
			before := given.whole().copy()
			first := call(given)
			kept := first.copy()
			first.scribble(99)
			if !given.whole().same(before) {
				t.Fatal(name, "of", a.name, "changes an argument or answers its memory")
			}
			if !call(given).same(kept) || !call(a).same(kept) {
				t.Fatal(name, "of", a.name, "answers something else to the same arguments")
			}
		}
	}
}

func TestMastersOutliveTheArguments(t *testing.T) {
	for _, a := range masterArguments() {
		for name, call := range masterCalls() {
			given := a.copy().roomy()
			answer := call(given)
			kept := answer.copy()
			given.scribble(98)
			call(a).scribble(97)
			if !answer.same(kept) {
				t.Fatal(name, "of", a.name, "keeps memory of an argument or answers the same memory twice")
			}
		}
	}
}

func TestMastersHangOnTheArgumentsAlone(t *testing.T) {
	arguments := masterArguments()
	for name, call := range masterCalls() {
		var want []masterAnswer
		for _, a := range arguments {
			want = append(want, call(a))
		}
		for i := len(arguments) - 1; i >= 0; i-- {
			if !call(arguments[i]).same(want[i]) {
				t.Fatal(name, "of", arguments[i].name, "answers something else behind other calls")
			}
		}
	}
}

func TestMastersAtTheSameTime(t *testing.T) {
	calls, arguments := masterCalls(), masterArguments()
	want := map[string][]masterAnswer{}
	for name, call := range calls {
		for _, a := range arguments {
			want[name] = append(want[name], call(a))
		}
	}
	var all sync.WaitGroup
	var wrong [8]int64
	for i := range wrong {
		all.Go(func() {
			for name, call := range calls {
				for k, a := range arguments {
					if !call(a).same(want[name][k]) {
						wrong[i]++
					}
				}
			}
		})
	}
	all.Wait()
	if wrong != [8]int64{} {
		t.Error("calls that are made at the same time")
	}
}

func TestAnyArgumentsOfMastersAreAnswered(t *testing.T) {
	r := rand.New(rand.NewSource(67))
	numbers := []int64{math.MinInt64, math.MinInt64 + 1, -513, -1, 0, 1, 2, 511, 512, 513, greatestEpoch, greatestEpoch + 1, greatestLSN - 1, greatestLSN, greatestLSN + 1, math.MaxInt64 - 1, math.MaxInt64}
	any := func() int64 { return numbers[r.Intn(len(numbers))] }
	disks := []impl.Disk{impl.NewDisk(1), impl.NewDisk(2), impl.NewDisk(1024), {}, {Durable: make([]byte, 1023)}}
	for range 4000 {
		a := masterArgument{disk: disks[r.Intn(len(disks))], sector: someBytes(r, r.Intn(600)), slot: any()}
		a.master = impl.Master{Seq: any(), Epoch: any(), Ckpt: any(), Low: any()}
		for _, call := range masterCalls() {
			call(a)
		}
	}
}
