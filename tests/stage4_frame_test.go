package tests

import (
	"bytes"
	"encoding/binary"
	"math"
	"math/rand"
	"testing"

	"loop.example/s02544/impl"
)

const greatestEpoch = 4294967295

func TestFrameSize(t *testing.T) {
	for _, c := range []struct {
		name string
		r    impl.LogRecord
		want int64
	}{
		{"an Update", logOf(1), 33 + 4 + 3 + 3 + 3 + 5},
		{"an Undo", logOf(2), 33 + 4 + 3 + 3 + 8},
		{"a Commit", logOf(3), 33},
		{"an Abort", logOf(4), 33},
		{"an End", logOf(5), impl.EndSize},
		{"a Begin", logOf(6), 33},
		{"Tables", logOf(7), 39 + 2*21 + 3*10},
		{"empty Tables", impl.LogRecord{Kind: 7, NextTxn: 1}, 39},
		{"full Tables", fullTables(), 39 + 8*21 + 16*10},
		{"an Image", logOf(8), impl.MaxFrame},
		{"an insert of no bytes", impl.LogRecord{Kind: 1, Txn: 1, After: impl.PageRecord{Used: true}}, 33 + 4 + 3 + 1},
		{"an insert of a byte", impl.LogRecord{Kind: 1, Txn: 1, After: recordOf("a")}, 33 + 4 + 4 + 1},
		{"the longest Update", impl.LogRecord{Kind: 1, Txn: 1, Before: longRecord(1000, 1), After: longRecord(1000, 1)}, 33 + 4 + 2*1003},
		{"an Undo to no record", impl.LogRecord{Kind: 2, Txn: 1}, 33 + 4 + 1 + 8},
		{"the longest Undo", impl.LogRecord{Kind: 2, Txn: 1, After: longRecord(1000, 1)}, 33 + 4 + 1003 + 8},
	} {
		if got := impl.FrameSize(c.r); got != c.want || int64(len(impl.EncodeFrame(512, 1, c.r))) != c.want {
			t.Error("the frame of", c.name, "has", got, "bytes")
		}
	}
	for _, l := range goodLogs() {
		if got := impl.FrameSize(l.record); got != 20+int64(len(plainEncode(l.record))) || got < 33 || got > 4131 {
			t.Error("the frame of", l.name, "has", got, "bytes")
		}
	}
	for kind := int64(1); kind <= 8; kind++ {
		for fault, breaks := range recordBreaks(kind) {
			for _, change := range breaks {
				r := logOf(kind)
				if change(&r); impl.FrameSize(r) != 0 {
					t.Error("the frame of a record with the fault", fault, "has", impl.FrameSize(r), "bytes")
				}
			}
		}
	}
}

func TestEncodeFrameAtTheBounds(t *testing.T) {
	for _, l := range goodLogs() {
		for _, lsn := range []int64{1, 2, 512, 1 << 32, greatestLSN - 1, greatestLSN} {
			for _, epoch := range []int64{1, 2, 1 << 31, greatestEpoch - 1, greatestEpoch} {
				f := impl.EncodeFrame(lsn, epoch, l.record)
				if !bytes.Equal(f, plainFrame(uint64(lsn), uint32(epoch), plainEncode(l.record))) {
					t.Fatalf("the frame of %s at %d in %d is %x", l.name, lsn, epoch, f)
				}
				r := impl.DecodeFrame(f, lsn, epoch, epoch)
				if r.Code != 0 || r.Size != int64(len(f)) || r.Epoch != epoch || !sameLog(r.Record, l.record) {
					t.Fatalf("the frame of %s at %d in %d is taken as %+v", l.name, lsn, epoch, r)
				}
			}
		}
		for _, lsn := range []int64{0, -1, greatestLSN + 1, 1 << 50, math.MaxInt64, math.MinInt64} {
			if f := impl.EncodeFrame(lsn, 1, l.record); len(f) != 0 {
				t.Errorf("%s has a frame at %d: %x", l.name, lsn, f)
			}
		}
		for _, epoch := range []int64{0, -1, greatestEpoch + 1, greatestEpoch + 2, 1 << 40, math.MaxInt64, math.MinInt64} {
			if f := impl.EncodeFrame(512, epoch, l.record); len(f) != 0 {
				t.Errorf("%s has a frame in %d: %x", l.name, epoch, f)
			}
		}
	}
}

func TestEncodeFrameOfFaultyRecords(t *testing.T) {
	for kind := int64(1); kind <= 8; kind++ {
		for fault, breaks := range recordBreaks(kind) {
			for _, change := range breaks {
				r := logOf(kind)
				if change(&r); len(impl.EncodeFrame(1, 1, r)) != 0 {
					t.Error("a record with the fault", fault, "is framed")
				}
			}
		}
	}
	if len(impl.EncodeFrame(512, 1, impl.LogRecord{})) != 0 {
		t.Error("no record is framed")
	}
}

// frameIs holds the whole answer against the code: beside one that is not 0 all is zero.
func frameIs(t *testing.T, name string, b []byte, lsn, least, most, want int64) {
	t.Helper()
	r := impl.DecodeFrame(b, lsn, least, most)
	if r.Code != want || plainFrameCode(b, lsn, least, most) != want {
		t.Errorf("%s has the code %d, not %d", name, r.Code, want)
	}
	if r.Code != 0 && (r.Size != 0 || r.Epoch != 0 || !isZeroLog(r.Record)) {
		t.Errorf("%s has a code and %+v", name, r)
	}
	if r.Code == 0 && !bytes.Equal(plainFrame(uint64(lsn), uint32(r.Epoch), plainEncode(r.Record)), b[:r.Size]) {
		t.Errorf("%s is taken as %+v", name, r)
	}
}

func TestFramesWithMoreBehind(t *testing.T) {
	for _, l := range goodLogs() {
		f := impl.EncodeFrame(700, 5, l.record)
		for _, more := range [][]byte{nil, {0}, {255}, f, make([]byte, 600), bytes.Repeat([]byte{255}, 5000)} {
			b := append(bytes.Clone(f), more...)
			frameIs(t, l.name+" with more behind", b, 700, 5, 5, 0)
			r := impl.DecodeFrame(b, 700, 1, greatestEpoch)
			if r.Size != int64(len(f)) || r.Epoch != 5 || !sameLog(r.Record, l.record) {
				t.Errorf("%s with more behind is taken as %+v", l.name, r)
			}
		}
	}
}

func TestFramesAtOtherPlaces(t *testing.T) {
	for _, l := range plainLogs() {
		for _, lsn := range []int64{1, 512, 700, greatestLSN} {
			f := impl.EncodeFrame(lsn, 5, l.record)
			frameIs(t, l.name, f, lsn, 5, 5, 0)
			for _, other := range []int64{lsn - 1, lsn + 1, lsn + 512, lsn + 1<<32, lsn + 1<<48, -lsn, 0, -1, math.MaxInt64, math.MinInt64, math.MinInt64 + lsn} {
				frameIs(t, l.name+" at another place", f, other, 5, 5, 3)
			}
		}
	}
	// What 8 bytes tell from 2 to the 63 on is no number, so it is none that can be asked for.
	for _, lsn := range []uint64{1 << 63, 1<<63 + 512, math.MaxUint64, math.MaxUint64 - 511} {
		f := plainFrame(lsn, 5, plainEncode(logOf(5)))
		for _, asked := range []int64{-1, int64(lsn), 0, 512, math.MaxInt64, math.MinInt64} {
			frameIs(t, "a frame at no place", f, asked, 5, 5, 3)
		}
	}
}

// TestFramesAtThePlaceAskedFor has places and epochs that EncodeFrame refuses:
// DecodeFrame asks for those that it is told, whatever they are.
func TestFramesAtThePlaceAskedFor(t *testing.T) {
	for _, lsn := range []int64{0, greatestLSN + 1, math.MaxInt64} {
		frameIs(t, "a frame laid by hand", plainFrame(uint64(lsn), 5, plainEncode(logOf(5))), lsn, 5, 5, 0)
	}
	frameIs(t, "a frame of the epoch 0", plainFrame(512, 0, plainEncode(logOf(5))), 512, 0, 0, 0)
	frameIs(t, "a frame of the epoch 0", plainFrame(512, 0, plainEncode(logOf(5))), 512, 1, 9, 4)
}

func TestFramesInEpochs(t *testing.T) {
	for _, l := range plainLogs() {
		for _, epoch := range []int64{1, 2, 77, greatestEpoch} {
			f := impl.EncodeFrame(512, epoch, l.record)
			for _, c := range []struct{ least, most, want int64 }{
				{epoch, epoch, 0},
				{epoch, epoch + 1, 0},
				{epoch - 1, epoch, 0},
				{epoch - 1, epoch + 1, 0},
				{math.MinInt64, math.MaxInt64, 0},
				{-5, greatestEpoch + 5, 0},
				{epoch + 1, epoch + 1, 4},
				{epoch - 1, epoch - 1, 4},
				{epoch + 1, math.MaxInt64, 4},
				{math.MinInt64, epoch - 1, 4},
				{epoch, epoch - 1, 4},
				{epoch + 1, epoch, 4},
				{epoch + 1, epoch - 1, 4},
				{math.MaxInt64, math.MinInt64, 4},
				{0, 0, 4},
				{epoch + 1<<32, epoch + 1<<32, 4},
				{epoch - 1<<32, epoch - 1<<32, 4},
			} {
				frameIs(t, l.name, f, 512, c.least, c.most, c.want)
			}
		}
	}
}

func TestFramesTooShort(t *testing.T) {
	frameIs(t, "nil", nil, 512, 1, 9, 1)
	frameIs(t, "no bytes", []byte{}, 512, 1, 9, 1)
	for _, l := range goodLogs() {
		f := impl.EncodeFrame(512, 5, l.record)
		for n := range f {
			if n < 100 || n > len(f)-20 {
				frameIs(t, l.name+", cut", f[:n], 512, 5, 5, 1)
			}
		}
		frameIs(t, l.name, f, 512, 5, 5, 0)
	}
	for n := range 33 {
		frameIs(t, "so many bytes 0", make([]byte, n), 0, 0, 0, 1)
		b := make([]byte, n)
		if n >= 4 {
			binary.BigEndian.PutUint32(b, uint32(n))
		}
		frameIs(t, "a length that is right, but too small", b, 0, 0, 0, 1)
	}
}

func TestFramesWithToldLengths(t *testing.T) {
	record := plainEncode(logOf(5))
	roomy := append(bytes.Clone(record), make([]byte, 5000)...)
	for _, c := range []struct {
		name   string
		told   uint32
		record []byte
		want   int64
	}{
		{"EndSize", 33, roomy, 0},
		{"EndSize - 1", 32, roomy, 1},
		{"EndSize - 1 and no more", 32, record[:12], 1},
		{"EndSize + 1", 34, roomy, 5},
		{"FrameHead", 20, roomy, 1},
		{"0", 0, roomy, 1},
		{"1", 1, roomy, 1},
		{"7", 7, roomy, 1},
		{"MaxFrame", 4131, roomy, 5},
		{"MaxFrame of an Image", 4131, plainEncode(logOf(8)), 0},
		{"MaxFrame of an Image with more behind", 4131, append(plainEncode(logOf(8)), 1, 2, 3), 0},
		{"MaxFrame + 1", 4132, roomy, 1},
		{"MaxFrame + 1 and no more", 4132, append(plainEncode(logOf(8)), 0), 1},
		{"one more than there is", 34, record, 1},
		{"one more than an Image has", 4132, plainEncode(logOf(8)), 1},
		{"one less than an Image has", 4130, plainEncode(logOf(8)), 5},
		{"one byte of an Image missing", 4131, plainEncode(logOf(8))[:4110], 1},
		{"the greatest", math.MaxUint32, roomy, 1},
		{"a high bit", 1<<31 + 33, roomy, 1},
		{"65536 more", 65536 + 33, roomy, 1},
	} {
		frameIs(t, "a told length of "+c.name, toldFrame(c.told, 512, 5, c.record), 512, 5, 5, c.want)
	}
	for told := range uint32(5000) {
		b := toldFrame(told, 512, 5, roomy)
		frameIs(t, "a told length", b, 512, 5, 5, plainFrameCode(b, 512, 5, 5))
	}
}

// TestFramesTheFirst breaks a frame in one way, and in several.
func TestFramesTheFirst(t *testing.T) {
	seen := map[int64]int{}
	for broken := range 1 << 5 {
		is := func(code int) bool { return broken>>(code-1)&1 == 1 }
		record, lsn, epoch := plainEncode(logOf(1)), uint64(512), uint32(5)
		if is(5) {
			record[17] = 2
		}
		if is(4) {
			epoch = 6
		}
		if is(3) {
			lsn = 513
		}
		b := plainFrame(lsn, epoch, record)
		if is(2) {
			b[6]++
		}
		frames := [][]byte{b}
		if is(1) {
			tooLong, tooShort := bytes.Clone(b), bytes.Clone(b)
			tooLong[3]++
			copy(tooShort, []byte{0, 0, 0, 32})
			frames = [][]byte{b[:len(b)-1], tooLong, tooShort, b[:19]}
		}
		want := int64(0)
		for code := 5; code >= 1; code-- {
			if is(code) {
				want = int64(code)
			}
		}
		seen[want]++
		for _, f := range frames {
			frameIs(t, "a broken frame", f, 512, 5, 5, want)
		}
	}
	for code, times := range map[int64]int{0: 1, 1: 16, 2: 8, 3: 4, 4: 2, 5: 1} {
		if seen[code] != times {
			t.Error("the code", code, "was seen", seen[code], "times")
		}
	}
}

func TestFramesOfNoRecord(t *testing.T) {
	for kind := int64(1); kind <= 8; kind++ {
		good := plainEncode(logOf(kind))
		frameIs(t, "a byte more", plainFrame(512, 5, append(bytes.Clone(good), 0)), 512, 5, 5, map[bool]int64{true: 1, false: 5}[kind == 8])
		frameIs(t, "a byte less", plainFrame(512, 5, good[:len(good)-1]), 512, 5, 5, map[bool]int64{true: 1, false: 5}[len(good) == 13])
		for fault, breaks := range recordBreaks(kind) {
			for _, change := range breaks {
				r := logOf(kind)
				change(&r)
				b := plainEncode(r)
				if _, is := plainDecode(b); is || fault == 6 || fault == 9 {
					continue
				}
				frameIs(t, "the frame of a faulty record", plainFrame(512, 5, b), 512, 5, 5, 5)
			}
		}
	}
	for _, b := range [][]byte{make([]byte, 13), make([]byte, 4111), bytes.Repeat([]byte{255}, 13), bytes.Repeat([]byte{1}, 100)} {
		frameIs(t, "the frame of no record", plainFrame(512, 5, b), 512, 5, 5, 5)
	}
	long := plainEncode(impl.LogRecord{Kind: 1, Txn: 1, After: longRecord(1001, 1)})
	frameIs(t, "the frame of 1001 bytes", plainFrame(512, 5, long), 512, 5, 5, 5)
	other := plainEncode(impl.LogRecord{Kind: 8, Page: 2, Image: impl.PageNew(3)})
	frameIs(t, "the frame of another page's image", plainFrame(512, 5, other), 512, 5, 5, 5)
}

// TestFramesWithTurnedBits turns up to 32 bits in a row, which the sum never bears.
func TestFramesWithTurnedBits(t *testing.T) {
	r := rand.New(rand.NewSource(44))
	for _, l := range goodLogs() {
		f := impl.EncodeFrame(512, 5, l.record)
		bits := (len(f) - 8) * 8
		for at := range bits {
			if bits > 3000 && r.Intn(20) > 0 {
				continue
			}
			for _, pattern := range []uint32{1, 3, 1<<31 | 1, math.MaxUint32, r.Uint32() | 1} {
				turned := append(bytes.Clone(f[:8]), turn(f[8:], at, pattern)...)
				if got := impl.DecodeFrame(turned, 512, 5, 5); got.Code != 2 {
					t.Fatal(l.name, "turned at", at, "by", pattern, "has the code", got.Code)
				}
			}
		}
		for at := range 64 {
			turned := append(turn(f[:8], at, 1), f[8:]...)
			if got := impl.DecodeFrame(turned, 512, 5, 5); got.Code != 1 && got.Code != 2 {
				t.Fatal(l.name, "turned in its head at", at, "has the code", got.Code)
			}
		}
	}
}

func TestAnyFrames(t *testing.T) {
	r := rand.New(rand.NewSource(45))
	seen := map[int64]int{}
	for range 5000 {
		l := anyLog(r)
		lsn, epoch := 1+r.Int63n(greatestLSN), 1+r.Int63n(greatestEpoch)
		f := impl.EncodeFrame(lsn, epoch, l)
		least, most := epoch-r.Int63n(3), epoch+r.Int63n(3)
		if got := impl.DecodeFrame(append(f, someBytes(r, r.Intn(9))...), lsn, least, most); got.Code != 0 || got.Epoch != epoch || got.Size != impl.FrameSize(l) || !sameLog(got.Record, l) {
			t.Fatalf("%+v at %d in %d is taken as %+v", l, lsn, epoch, got)
		}
		record := plainEncode(l)
		record[r.Intn(min(30, len(record)))] ^= byte(r.Intn(4))
		b := plainFrame(uint64(lsn+r.Int63n(4)/3), uint32(epoch), record)
		if r.Intn(6) == 0 {
			b[r.Intn(20)]++
		}
		least, most = epoch-r.Int63n(5)+1, epoch+r.Int63n(5)-1
		want := plainFrameCode(b, lsn, least, most)
		seen[want]++
		frameIs(t, "any frame", b, lsn, least, most, want)
	}
	for code := range int64(6) {
		if seen[code] < 20 {
			t.Error("the code", code, "was seen", seen[code], "times")
		}
	}
}
