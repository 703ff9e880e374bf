package tests

import (
	"bytes"
	"encoding/hex"
	"math"
	"math/rand"
	"strconv"
	"testing"

	"loop.example/s02544/impl"
)

func TestMasterConstants(t *testing.T) {
	if impl.MaxSeq != 1099511627776 {
		t.Error("the greatest number of a master")
	}
}

func TestMasterFaults(t *testing.T) {
	good := impl.Master{Seq: 7, Epoch: 3, Ckpt: 700, Low: 600}
	if impl.MasterFault(good) != 0 {
		t.Fatal("a master without fault has the fault", impl.MasterFault(good))
	}
	for code, first := range masterBreaks() {
		for i, change := range first {
			m := good
			change(&m)
			if got := impl.MasterFault(m); got != code || plainMasterFault(m) != code {
				t.Errorf("the fault %d, change %d, is told as %d: %+v", code, i, got, m)
			}
			for later, second := range masterBreaks() {
				for _, more := range second {
					both := m
					if later <= code {
						continue
					}
					if more(&both); impl.MasterFault(both) != code {
						t.Errorf("of the faults %d and %d the master tells %d: %+v", code, later, impl.MasterFault(both), both)
					}
				}
			}
		}
	}
}

func TestMasterFaultAtTheBounds(t *testing.T) {
	for _, m := range goodMasters() {
		if got := impl.MasterFault(m); got != 0 {
			t.Errorf("%+v has the fault %d", m, got)
		}
	}
	for _, c := range []struct {
		seq, epoch, ckpt, low int64
		want                  int64
	}{
		{0, 1, 512, 512, 1}, {1, 1, 512, 512, 0}, {greatestSeq, 1, 512, 512, 0}, {greatestSeq + 1, 1, 512, 512, 1}, {-1, 1, 512, 512, 1},
		{1, 0, 512, 512, 2}, {1, greatestEpoch, 512, 512, 0}, {1, greatestEpoch + 1, 512, 512, 2}, {1, -1, 512, 512, 2},
		{1, 1, 512, 511, 3}, {1, 1, 511, 511, 3}, {1, 1, 512, 513, 3}, {1, 1, 513, 513, 0}, {1, 1, 513, 512, 0}, {1, 1, 600, -1, 3}, {1, 1, -1, -2, 3},
		{1, 1, greatestLSN, 512, 0}, {1, 1, greatestLSN, greatestLSN, 0}, {1, 1, greatestLSN + 1, 512, 3},
		{1, 1, greatestLSN + 1, greatestLSN + 1, 3}, {1, 1, greatestLSN, greatestLSN + 1, 3},
		{0, 0, 512, 512, 1}, {0, 1, 0, 0, 1}, {1, 0, 0, 0, 2}, {0, 0, 0, 0, 1}, {1, 1, 0, 0, 3},
		{math.MinInt64, math.MinInt64, math.MinInt64, math.MinInt64, 1}, {math.MaxInt64, math.MaxInt64, math.MaxInt64, math.MaxInt64, 1},
	} {
		m := impl.Master{Seq: c.seq, Epoch: c.epoch, Ckpt: c.ckpt, Low: c.low}
		if got := impl.MasterFault(m); got != c.want {
			t.Errorf("%+v has the fault %d and not %d", m, got, c.want)
		}
	}
}

func TestAnyMasterHasThePlainFault(t *testing.T) {
	r := rand.New(rand.NewSource(61))
	numbers := []int64{math.MinInt64, -1, 0, 1, 2, 511, 512, 513, greatestEpoch - 1, greatestEpoch, greatestEpoch + 1, greatestLSN - 1, greatestLSN, greatestLSN + 1, math.MaxInt64}
	seen := map[int64]int{}
	for range 20000 {
		m := anyMaster(r)
		if impl.MasterFault(m) != 0 {
			t.Fatalf("%+v has the fault %d", m, impl.MasterFault(m))
		}
		for range r.Intn(3) {
			*[]*int64{&m.Seq, &m.Epoch, &m.Ckpt, &m.Low}[r.Intn(4)] = numbers[r.Intn(len(numbers))]
		}
		want := plainMasterFault(m)
		if got := impl.MasterFault(m); got != want {
			t.Fatalf("%+v has the fault %d and not %d", m, got, want)
		}
		if b := impl.EncodeMaster(m); want != 0 && len(b) != 0 || want == 0 && !bytes.Equal(b, plainMaster(m)) {
			t.Fatalf("%+v is encoded as %x", m, b)
		}
		seen[want]++
	}
	for code := range int64(4) {
		if seen[code] < 100 {
			t.Error("the fault", code, "was seen", seen[code], "times")
		}
	}
}

func TestEncodeMasterByteByByte(t *testing.T) {
	for _, c := range []struct {
		m    impl.Master
		want string
	}{
		{impl.Master{Seq: 1, Epoch: 1, Ckpt: 512, Low: 512},
			"68656170" + "0000000000000001" + "00000001" + "0000000000000200" + "0000000000000200" + "457a5007"},
		{impl.Master{Seq: 0x0102030405, Epoch: 0x06070809, Ckpt: 0x1a1b1c1d1e, Low: 0x0a0b0c0d0e},
			"68656170" + "0000000102030405" + "06070809" + "0000001a1b1c1d1e" + "0000000a0b0c0d0e"},
		{impl.Master{Seq: greatestSeq, Epoch: greatestEpoch, Ckpt: greatestLSN, Low: greatestLSN},
			"68656170" + "0000010000000000" + "ffffffff" + "0000010000000000" + "0000010000000000"},
	} {
		b := impl.EncodeMaster(c.m)
		if len(b) != 512 {
			t.Fatalf("%+v is encoded in %d bytes", c.m, len(b))
		}
		if got := hex.EncodeToString(b[:36]); got[:len(c.want)] != c.want {
			t.Errorf("%+v is encoded as %s", c.m, got)
		}
		if sum := impl.GetNumber(b[32:36]); sum != plainSum(b[:32]) {
			t.Errorf("%+v has the sum %d", c.m, sum)
		}
		if !bytes.Equal(b[36:], make([]byte, 476)) {
			t.Errorf("%+v has something behind the sum: %x", c.m, b[36:])
		}
	}
}

func TestEncodeMasterOfFaultyOnes(t *testing.T) {
	for _, m := range faultyMasters() {
		if b := impl.EncodeMaster(m); len(b) != 0 {
			t.Errorf("%+v is encoded as %x", m, b)
		}
	}
}

func TestMastersThereAndBack(t *testing.T) {
	r := rand.New(rand.NewSource(62))
	list := goodMasters()
	for range 2000 {
		list = append(list, anyMaster(r))
	}
	for _, m := range list {
		b := impl.EncodeMaster(m)
		if !bytes.Equal(b, plainMaster(m)) {
			t.Fatalf("%+v is encoded as %x", m, b)
		}
		if got := impl.DecodeMaster(b); got != (impl.MasterResult{Good: true, Master: m}) {
			t.Fatalf("%+v comes back as %+v", m, got)
		}
	}
}

// noMaster asks that all is zero.
func noMaster(t *testing.T, name string, b []byte) {
	t.Helper()
	if got := impl.DecodeMaster(b); got != (impl.MasterResult{}) {
		t.Errorf("%s is decoded as %+v", name, got)
	}
}

func TestDecodeMasterOfOtherLengths(t *testing.T) {
	noMaster(t, "nil", nil)
	noMaster(t, "no bytes", []byte{})
	for _, m := range goodMasters() {
		b := plainMaster(m)
		for n := range b {
			noMaster(t, "the beginning of a sector", b[:n])
			// What stands behind the end of a list is no part of it.
			noMaster(t, "the beginning of a sector alone", bytes.Clone(b[:n]))
		}
		noMaster(t, "a byte 0 more", append(bytes.Clone(b), 0))
		noMaster(t, "a byte more", append(bytes.Clone(b), 1))
		noMaster(t, "a byte ahead", append([]byte{0}, b...))
		noMaster(t, "a byte missing ahead", b[1:])
		noMaster(t, "two sectors", append(bytes.Clone(b), b...))
		noMaster(t, "a sector of 0 more", append(bytes.Clone(b), make([]byte, 512)...))
	}
}

func TestDecodeMasterOfOtherMarks(t *testing.T) {
	for _, mark := range []string{"Heap", "HEAP", "hea\x00", "heaq", "ieap", "paeh", "heep", "\x00\x00\x00\x00", "\xff\xff\xff\xff", "    ", "\x1feap", "hea0"} {
		noMaster(t, "the mark "+strconv.Quote(mark), laidMaster(mark, 1, 1, 512, 512))
	}
	for i := range 4 {
		for v := range 256 {
			b := plainMaster(goodMasters()[3])
			if b[i] == byte(v) {
				continue
			}
			b[i] = byte(v)
			noMaster(t, "another byte of the mark", b)
			noMaster(t, "another byte of the mark, with a right sum", resealed(b))
		}
	}
}

func TestDecodeMasterOfFaultyNumbers(t *testing.T) {
	for _, c := range []struct {
		name      string
		seq       uint64
		epoch     uint32
		ckpt, low uint64
	}{
		{"Seq 0", 0, 1, 512, 512},
		{"Seq one above the greatest", greatestSeq + 1, 1, 512, 512},
		{"Seq greatest number", math.MaxInt64, 1, 512, 512},
		{"Seq 2 to the 63", 1 << 63, 1, 512, 512},
		{"Seq 2 to the 63 and 1", 1<<63 + 1, 1, 512, 512},
		{"Seq all bits", math.MaxUint64, 1, 512, 512},
		{"Epoch 0", 1, 0, 512, 512},
		{"Ckpt one below Low", 1, 1, 512, 513},
		{"Low 511", 1, 1, 512, 511},
		{"Low 0", 1, 1, 512, 0},
		{"both 511", 1, 1, 511, 511},
		{"Ckpt one above the greatest", 1, 1, greatestLSN + 1, 512},
		{"both one above the greatest", 1, 1, greatestLSN + 1, greatestLSN + 1},
		{"Low one above the greatest", 1, 1, greatestLSN, greatestLSN + 1},
		{"Ckpt 2 to the 63", 1, 1, 1<<63 + 512, 512},
		{"Low 2 to the 63", 1, 1, 512, 1<<63 + 512},
		{"Low all bits", 1, 1, 512, math.MaxUint64},
		{"Ckpt all bits", 1, 1, math.MaxUint64, 512},
		{"both all bits", 1, 1, math.MaxUint64, math.MaxUint64},
		{"all 0", 0, 0, 0, 0},
		{"all bits", math.MaxUint64, math.MaxUint32, math.MaxUint64, math.MaxUint64},
	} {
		noMaster(t, c.name, laidMaster("heap", c.seq, c.epoch, c.ckpt, c.low))
	}
	noMaster(t, "a sector of 0", make([]byte, 512))
	noMaster(t, "a sector of 255", filled(255))
}

func TestDecodeMasterOfWrongSums(t *testing.T) {
	for _, m := range goodMasters() {
		good := plainMaster(m)
		for i := 32; i < 36; i++ {
			for v := range 256 {
				b := bytes.Clone(good)
				if b[i] = byte(v); b[i] != good[i] {
					noMaster(t, "another byte of the sum", b)
				}
			}
		}
		b := bytes.Clone(good)
		copy(b[32:], []byte{good[35], good[34], good[33], good[32]})
		noMaster(t, "the sum with its lowest byte first", b)
		copy(b[32:], put4(nil, plainSum(good[4:32])))
		noMaster(t, "the sum without the mark", b)
		copy(b[32:], put4(nil, plainSum(append(bytes.Clone(good[:32]), good[36:]...))))
		noMaster(t, "the sum of the whole sector", b)
		copy(b[32:], make([]byte, 4))
		noMaster(t, "no sum", b)
	}
}

func TestDecodeMasterWithSomethingBehind(t *testing.T) {
	good := plainMaster(goodMasters()[4])
	for i := 36; i < 512; i++ {
		for _, v := range []byte{1, 128, 255} {
			b := bytes.Clone(good)
			b[i] = v
			noMaster(t, "a byte behind the sum that is not 0", b)
		}
	}
}

// TestMastersWithTurnedBits turns up to 32 bits in a row, which the sum never bears.
func TestMastersWithTurnedBits(t *testing.T) {
	r := rand.New(rand.NewSource(63))
	for _, m := range goodMasters() {
		good := impl.EncodeMaster(m)
		for at := range 32 * 8 {
			for range 20 {
				for _, pattern := range []uint32{1, 3, 1<<31 | 1, math.MaxUint32, r.Uint32() | 1} {
					turned := append(turn(good[:32], at, pattern), good[32:]...)
					if impl.Crc(turned[:32]) == impl.GetNumber(good[32:36]) {
						t.Fatal("a change at", at, "by", pattern, "leaves the sum as it is")
					}
					noMaster(t, "a master with turned bits", turned)
				}
			}
		}
		for at := 32 * 8; at < 512*8; at++ {
			noMaster(t, "a sector with a turned bit", turn(good, at, 1))
		}
	}
}

// TestAnySectorsAreDecodedAsPlain also asks that what is decoded is encoded to the same bytes.
func TestAnySectorsAreDecodedAsPlain(t *testing.T) {
	r := rand.New(rand.NewSource(64))
	seen := map[bool]int{}
	for range 20000 {
		b := plainMaster(anyMaster(r))
		switch r.Intn(5) {
		case 0:
			b = anyBytes(r)
		case 1:
			b[r.Intn(40)] = byte(r.Intn(256))
		case 2:
			b[r.Intn(32)] ^= byte(r.Intn(4))
			b = resealed(b)
		case 3:
			b[r.Intn(512)] ^= byte(r.Intn(2))
		}
		got := impl.DecodeMaster(b)
		if got != plainReadMaster(b) {
			t.Fatalf("%x is decoded as %+v", b[:40], got)
		}
		if got.Good && !bytes.Equal(impl.EncodeMaster(got.Master), b) {
			t.Fatalf("%+v has another form: %x", got, b)
		}
		seen[got.Good]++
	}
	if seen[true] < 1000 || seen[false] < 1000 {
		t.Error("sectors of a master, and others:", seen)
	}
}
