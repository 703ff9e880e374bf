package tests

import (
	"bytes"
	"math"
	"math/rand"
	"testing"

	"loop.example/s02544/impl"
)

func TestLogConstants(t *testing.T) {
	if impl.FirstLSN != 512 || impl.MinLogSectors != 16 || impl.MaxLogSectors != 800 {
		t.Error("the bounds of the log")
	}
}

func TestLogPlace(t *testing.T) {
	for _, c := range [][3]int64{
		{16, 512, 2}, {16, 513, 2}, {16, 1023, 2}, {16, 1024, 3}, {16, 1535, 3}, {16, 1536, 4},
		{16, 16 * 512, 17}, {16, 17*512 - 1, 17}, {16, 17 * 512, 2}, {16, 18*512 - 1, 2}, {16, 18 * 512, 3},
		{16, 33*512 - 1, 17}, {16, 33 * 512, 2},
		{33, 33 * 512, 34}, {33, 34*512 - 1, 34}, {33, 34 * 512, 2},
		{800, 512, 2}, {800, 800 * 512, 801}, {800, 801*512 - 1, 801}, {800, 801 * 512, 2}, {800, 1601 * 512, 2},
		{16, greatestLSN, 17}, {16, greatestLSN - 1, 16}, {33, greatestLSN, 3}, {33, greatestLSN - 1, 2},
		{33, greatestLSN - 513, 34}, {800, greatestLSN, 449}, {800, greatestLSN - 512, 448}, {800, greatestLSN - 513, 447},
		{16, 511, -1}, {16, 0, -1}, {16, -1, -1}, {16, -512, -1}, {16, math.MinInt64, -1},
		{16, greatestLSN + 1, -1}, {16, greatestLSN + 512, -1}, {16, math.MaxInt64, -1},
		{15, 512, -1}, {801, 512, -1}, {0, 512, -1}, {-1, 512, -1}, {-16, 512, -1}, {1, 512, -1},
		{math.MinInt64, 512, -1}, {math.MaxInt64, 512, -1}, {15, 511, -1}, {801, greatestLSN + 1, -1},
	} {
		if got := impl.LogPlace(c[0], c[1]); got != c[2] {
			t.Error("the place", c[1], "of", c[0], "sectors is in", got, "and not in", c[2])
		}
	}
}

func TestLogPlaceGoesRound(t *testing.T) {
	for _, sectors := range []int64{16, 17, 31, 33, 799, 800} {
		want := int64(2)
		for start := int64(512); start < (3*sectors+2)*512; start += 512 {
			if impl.LogPlace(sectors, start) != want || impl.LogPlace(sectors, start+511) != want || plainPlace(sectors, start+9) != want {
				t.Fatal("the sector at", start, "of", sectors)
			}
			if want++; want == sectors+2 {
				want = 2
			}
		}
	}
	r := rand.New(rand.NewSource(51))
	for range 2000 {
		sectors, lsn := 16+r.Int63n(785), 512+r.Int63n(greatestLSN-511)
		if got := impl.LogPlace(sectors, lsn); got != plainPlace(sectors, lsn) {
			t.Fatal("the place", lsn, "of", sectors, "sectors is in", got)
		}
	}
}

// tailBreaks are changes to a log without fault, by the code that each gives.
func tailBreaks() map[int64][]func(l *impl.Log) {
	breaks := map[int64][]func(l *impl.Log){}
	for _, v := range []int64{15, 801, 0, 1, -16, math.MaxInt64, math.MinInt64} {
		breaks[1] = append(breaks[1], func(l *impl.Log) { l.Sectors = v })
	}
	for _, v := range []int64{0, -1, greatestEpoch + 1, math.MaxInt64, math.MinInt64} {
		breaks[2] = append(breaks[2], func(l *impl.Log) { l.Epoch = v })
	}
	for _, v := range []int64{511, 0, -1, math.MinInt64} {
		breaks[3] = append(breaks[3],
			func(l *impl.Log) { l.Flushed = v },
			func(l *impl.Log) { l.End = v },
			func(l *impl.Log) { l.End, l.Flushed = v, v })
	}
	for _, v := range []int64{greatestLSN + 1, math.MaxInt64} {
		breaks[3] = append(breaks[3],
			func(l *impl.Log) { l.Flushed = v },
			func(l *impl.Log) { l.End = v },
			func(l *impl.Log) { l.End, l.Flushed = v, v })
	}
	breaks[3] = append(breaks[3],
		func(l *impl.Log) { l.Flushed = l.End + 1 },
		func(l *impl.Log) { l.End, l.Flushed = l.Flushed-1, l.End },
		// The tail has the length that the places tell, but they are in the wrong order.
		func(l *impl.Log) { l.Flushed, l.End, l.Tail = 1100, 1099, make([]byte, 75) })
	breaks[4] = append(breaks[4],
		func(l *impl.Log) { l.Tail = l.Tail[1:] },
		func(l *impl.Log) { l.Tail = append(bytes.Clone(l.Tail), 0) },
		func(l *impl.Log) { l.Tail = append(bytes.Clone(l.Tail), make([]byte, 512)...) },
		func(l *impl.Log) { l.Tail = nil })
	return breaks
}

func TestLogFaults(t *testing.T) {
	good := impl.Log{Sectors: 33, Epoch: 7, End: 1200, Flushed: 1030, Tail: make([]byte, 176)}
	if impl.LogFault(good) != 0 {
		t.Fatal("a log without fault has the fault", impl.LogFault(good))
	}
	for code, first := range tailBreaks() {
		for i, change := range first {
			l := good
			change(&l)
			if got := impl.LogFault(l); got != code {
				t.Errorf("the fault %d, change %d, is told as %d: %+v", code, i, got, l)
			}
			if got := plainLogFault(l); got != code {
				t.Errorf("the test's own fault %d, change %d, is %d", code, i, got)
			}
			for later, second := range tailBreaks() {
				for _, more := range second {
					both := l
					if later <= code {
						continue
					}
					if more(&both); impl.LogFault(both) != code {
						t.Errorf("of the faults %d and %d the log tells %d: %+v", code, later, impl.LogFault(both), both)
					}
				}
			}
		}
	}
}

func TestLogFaultAtTheBounds(t *testing.T) {
	for _, c := range []struct {
		name string
		log  impl.Log
		want int64
	}{
		{"the first log", impl.Log{Sectors: 16, Epoch: 1, End: 512, Flushed: 512}, 0},
		{"an empty tail", impl.Log{Sectors: 16, Epoch: 1, End: 512, Flushed: 512, Tail: []byte{}}, 0},
		{"most sectors", impl.Log{Sectors: 800, Epoch: 1, End: 512, Flushed: 512}, 0},
		{"the last epoch", impl.Log{Sectors: 16, Epoch: greatestEpoch, End: 512, Flushed: 512}, 0},
		{"one epoch more", impl.Log{Sectors: 16, Epoch: greatestEpoch + 1, End: 512, Flushed: 512}, 2},
		{"flushed at 511", impl.Log{Sectors: 16, Epoch: 1, End: 512, Flushed: 511, Tail: make([]byte, 512)}, 3},
		{"flushed one above the end", impl.Log{Sectors: 16, Epoch: 1, End: 599, Flushed: 600, Tail: make([]byte, 87)}, 3},
		{"flushed at the end", impl.Log{Sectors: 16, Epoch: 1, End: 600, Flushed: 600, Tail: make([]byte, 88)}, 0},
		{"flushed at the end, without tail", impl.Log{Sectors: 16, Epoch: 1, End: 600, Flushed: 600}, 4},
		{"nothing flushed", impl.Log{Sectors: 16, Epoch: 1, End: 600, Flushed: 512, Tail: make([]byte, 88)}, 0},
		{"a tail from what is flushed on", impl.Log{Sectors: 16, Epoch: 1, End: 600, Flushed: 590, Tail: make([]byte, 10)}, 4},
		{"the end at a sector's end", impl.Log{Sectors: 16, Epoch: 1, End: 1024, Flushed: 1024}, 0},
		{"a whole sector as a tail", impl.Log{Sectors: 16, Epoch: 1, End: 1024, Flushed: 1023, Tail: make([]byte, 512)}, 0},
		{"the greatest end", impl.Log{Sectors: 16, Epoch: 1, End: greatestLSN, Flushed: greatestLSN}, 0},
		{"the greatest end, not flushed", impl.Log{Sectors: 16, Epoch: 1, End: greatestLSN, Flushed: greatestLSN - 1, Tail: make([]byte, 512)}, 0},
		{"one above the greatest end", impl.Log{Sectors: 16, Epoch: 1, End: greatestLSN + 1, Flushed: greatestLSN, Tail: make([]byte, 1)}, 3},
		{"flushed one above the greatest", impl.Log{Sectors: 16, Epoch: 1, End: greatestLSN + 1, Flushed: greatestLSN + 1, Tail: make([]byte, 1)}, 3},
		{"all places at their ends", impl.Log{Sectors: 16, Epoch: 1, End: math.MaxInt64, Flushed: math.MinInt64}, 3},
		{"a tail longer than all sectors", impl.Log{Sectors: 16, Epoch: 1, End: 512 * 40, Flushed: 512, Tail: make([]byte, 512*39)}, 0},
		{"the zero value", impl.Log{}, 1},
	} {
		if got := impl.LogFault(c.log); got != c.want {
			t.Error(c.name, "has the fault", got, "and not", c.want)
		}
	}
}

func TestAnyLogHasThePlainFault(t *testing.T) {
	r := rand.New(rand.NewSource(52))
	numbers := []int64{math.MinInt64, -1, 0, 1, 15, 16, 511, 512, 513, 800, 801, 1024, greatestEpoch, greatestEpoch + 1, greatestLSN, greatestLSN + 1, math.MaxInt64}
	for range 20000 {
		l := anyTail(r)
		if impl.LogFault(l) != 0 {
			t.Fatalf("a log without fault has the fault %d: %+v", impl.LogFault(l), l)
		}
		for range r.Intn(3) {
			v := numbers[r.Intn(len(numbers))]
			switch r.Intn(5) {
			case 0:
				l.Sectors = v
			case 1:
				l.Epoch = v
			case 2:
				l.End = v
			case 3:
				l.Flushed = v
			case 4:
				l.Tail = l.Tail[:r.Intn(len(l.Tail)+1)]
			}
		}
		if got := impl.LogFault(l); got != plainLogFault(l) {
			t.Fatalf("the fault %d and not %d: %+v", got, plainLogFault(l), l)
		}
	}
}
