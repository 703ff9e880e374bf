package tests

import (
	"bytes"
	"testing"

	"loop.example/s02544/impl"
)

// diskCall is one call of a function of the disk, on arguments of its own; made anew by every ask.
type diskCall struct {
	name string
	disk impl.Disk
	data []byte
	keep []int64
	ops  []impl.Op
	call func(c *diskCall) impl.Disk
}

func askWrite(sector int64) func(*diskCall) impl.Disk {
	return func(c *diskCall) impl.Disk { return impl.DiskWrite(c.disk, sector, c.data) }
}

func askSync(c *diskCall) impl.Disk  { return impl.DiskSync(c.disk) }
func askCrash(c *diskCall) impl.Disk { return impl.DiskCrash(c.disk, c.keep) }

func askOps(limit int64) func(*diskCall) impl.Disk {
	return func(c *diskCall) impl.Disk { return impl.RunOps(c.disk, c.ops, limit).Disk }
}

// askRead tells the sector as a disk, so that it is looked at like the others.
func askRead(sector int64) func(*diskCall) impl.Disk {
	return func(c *diskCall) impl.Disk { return impl.Disk{Durable: impl.DiskRead(c.disk, sector)} }
}

// memoryDisks are good ones and faulty ones. The first write of some has its data in
// the same array as the next one's: what is told may not.
func memoryDisks() []namedDisk {
	two := append(filled(1), filled(2)...)
	joined := marked(2)
	joined.Pending = []impl.SectorWrite{{Sector: 0, Data: two[:512]}, {Sector: 1, Data: two[512:]}, {Sector: 1, Data: two[512:]}}
	roomy := marked(2)
	roomy.Pending = append(make([]impl.SectorWrite, 0, 9), writeTo(0, 3), writeTo(1, 4))
	list := []namedDisk{
		{"no pending writes", marked(2)},
		{"joined data", joined},
		{"a list with room", roomy},
		{"a full list", marked(2, manyWrites(impl.MaxPending, 2)...)},
	}
	return append(list, faultyDisks()...)
}

func memoryCalls(d namedDisk) []diskCall {
	shared := filled(6)
	asks := []struct {
		name string
		data []byte
		call func(*diskCall) impl.Disk
	}{
		{"DiskRead of 0", nil, askRead(0)},
		{"DiskRead of 1", nil, askRead(1)},
		{"DiskRead of none", nil, askRead(2)},
		{"DiskWrite", filled(5), askWrite(1)},
		{"DiskWrite to none", filled(5), askWrite(2)},
		{"DiskWrite of too little", filled(5)[1:], askWrite(0)},
		{"DiskWrite of too much", append(filled(5), 5), askWrite(0)},
		{"DiskSync", nil, askSync},
		{"DiskCrash", nil, askCrash},
		{"RunOps", nil, askOps(-1)},
		{"RunOps of one", nil, askOps(1)},
		{"RunOps of none", nil, askOps(0)},
	}
	var calls []diskCall
	for _, a := range asks {
		ops := []impl.Op{{Kind: impl.OpWrite, Sector: 0, Data: shared}, {Kind: 5, Data: filled(7)}, {Kind: impl.OpWrite, Sector: 1, Data: shared}}
		calls = append(calls, diskCall{d.name + ", " + a.name, d.disk, a.data, []int64{1, 0, 1}, ops, a.call})
	}
	return calls
}

func (c *diskCall) copy() *diskCall {
	return &diskCall{c.name, copyOf(c.disk), append([]byte(nil), c.data...), append([]int64(nil), c.keep...), copyOps(c.ops), c.call}
}

func (c *diskCall) same(o *diskCall) bool {
	if len(c.keep) != len(o.keep) || !bytes.Equal(c.data, o.data) || !sameOps(c.ops, o.ops) {
		return false
	}
	for i, k := range c.keep {
		if k != o.keep[i] {
			return false
		}
	}
	return sameDisk(c.disk, o.disk)
}

// scribble writes over all that the list can reach, also behind its end.
func scribble(b []byte, v byte) {
	b = b[:cap(b)]
	for i := range b {
		b[i] = v
	}
}

func scribbleDisk(d impl.Disk, v byte) {
	scribble(d.Durable, v)
	for _, w := range d.Pending {
		scribble(w.Data, v)
	}
	list := d.Pending[:cap(d.Pending)]
	for i := range list {
		list[i] = impl.SectorWrite{Sector: int64(v), Data: []byte{v}}
	}
}

func (c *diskCall) scribble(v byte) {
	scribbleDisk(c.disk, v)
	scribble(c.data, v)
	for i := range c.keep {
		c.keep[i] = int64(v)
	}
	for i, o := range c.ops {
		scribble(o.Data, v)
		c.ops[i] = impl.Op{Kind: int64(v)}
	}
}

func TestArgumentsStayAndAnswersAreTheSame(t *testing.T) {
	for _, d := range memoryDisks() {
		for _, c := range memoryCalls(d) {
			before := c.copy()
			first := c.call(&c)
			if !c.same(before) {
				t.Fatal(c.name, "changes an argument")
			}
			kept := copyOf(first)
			scribbleDisk(first, 99)
			if !c.same(before) {
				t.Fatal(c.name, "answers memory of an argument")
			}
			if !sameDisk(c.call(&c), kept) || !sameDisk(before.call(before), kept) {
				t.Fatal(c.name, "answers something else to the same arguments")
			}
		}
	}
}

func TestAnswersOutliveTheArguments(t *testing.T) {
	for _, d := range memoryDisks() {
		for _, call := range memoryCalls(d) {
			c := call.copy() // the calls of one disk share it
			answer := c.call(c)
			kept := copyOf(answer)
			c.scribble(99)
			if !sameDisk(answer, kept) {
				t.Fatal(c.name, "keeps memory of an argument")
			}
		}
	}
}

// listsOf caps each list at a few, so that full lists are looked at from both ends only.
func listsOf(d impl.Disk) [][]byte {
	lists := [][]byte{d.Durable}
	for i, w := range d.Pending {
		if i < 4 || i >= len(d.Pending)-4 {
			lists = append(lists, w.Data)
		}
	}
	return lists
}

func TestListsOfOneAnswerShareNothing(t *testing.T) {
	for _, d := range memoryDisks() {
		for _, c := range memoryCalls(d) {
			lists := listsOf(c.call(&c))
			for i, list := range lists {
				others := make([][]byte, len(lists))
				for k := range lists {
					others[k] = append([]byte(nil), lists[k]...)
				}
				scribble(list, byte(100+i))
				for k := range lists {
					if k != i && !bytes.Equal(lists[k], others[k]) {
						t.Fatal(c.name, "has lists that share memory:", i, k)
					}
				}
			}
		}
	}
}

func TestTwoAnswersShareNothing(t *testing.T) {
	for _, d := range memoryDisks() {
		for _, c := range memoryCalls(d) {
			first := c.call(&c)
			kept := copyOf(first)
			scribbleDisk(c.call(&c), 98)
			if !sameDisk(first, kept) {
				t.Fatal(c.name, "answers the same memory twice")
			}
		}
	}
	first := impl.NewDisk(2)
	scribble(impl.NewDisk(2).Durable, 1)
	if !sameDisk(first, impl.Disk{Durable: make([]byte, 1024)}) || !sameDisk(impl.NewDisk(2), first) {
		t.Error("NewDisk answers the same memory twice")
	}
}
