package tests

import (
	"bytes"
	"math"
	"math/rand"
	"testing"

	"loop.example/s02544/impl"
)

// plainSum is the sum as the document tells it: bit by bit, without a table.
func plainSum(b []byte) int64 { return plainOn(0, b) }

// plainOn takes up the register that was turned in the end.
func plainOn(sum int64, b []byte) int64 {
	register := ^uint32(sum)
	for _, x := range b {
		register ^= uint32(x)
		for range 8 {
			if register&1 == 1 {
				register = register>>1 ^ 3988292384
			} else {
				register >>= 1
			}
		}
	}
	return int64(^register)
}

func someBytes(r *rand.Rand, n int) []byte {
	b := make([]byte, n)
	for i := range b {
		b[i] = byte(r.Intn(256))
	}
	return b
}

// mostIn is the greatest number that fits into n bytes.
func mostIn(n int) int64 {
	if n >= 8 {
		return math.MaxInt64
	}
	return int64(1)<<(8*n) - 1
}

func TestPutNumberHighestByteFirst(t *testing.T) {
	for _, c := range []struct {
		v, n int64
		want []byte
	}{
		{0, 1, []byte{0}},
		{0, 8, make([]byte, 8)},
		{1, 3, []byte{0, 0, 1}},
		{127, 1, []byte{127}},
		{128, 1, []byte{128}},
		{0x0102, 2, []byte{1, 2}},
		{0x0102, 4, []byte{0, 0, 1, 2}},
		{0x8000, 2, []byte{128, 0}},
		{0x01020304050607, 7, []byte{1, 2, 3, 4, 5, 6, 7}},
		{0x0102030405060708, 8, []byte{1, 2, 3, 4, 5, 6, 7, 8}},
		{math.MaxInt64, 8, []byte{127, 255, 255, 255, 255, 255, 255, 255}},
	} {
		if got := impl.PutNumber(c.v, c.n); !bytes.Equal(got, c.want) {
			t.Errorf("PutNumber(%d, %d) is %v", c.v, c.n, got)
		}
		if got := impl.GetNumber(c.want); got != c.v {
			t.Errorf("GetNumber(%v) is %d", c.want, got)
		}
	}
}

func TestPutNumberRefuses(t *testing.T) {
	for _, n := range []int64{0, -1, -8, 9, 10, 256, 257, 1<<32 + 1, 1 << 60, 1 << 61, math.MinInt64, math.MaxInt64} {
		for _, v := range []int64{0, 1, 255, -1, math.MaxInt64, math.MinInt64} {
			if got := impl.PutNumber(v, n); len(got) != 0 {
				t.Errorf("PutNumber(%d, %d) is %v", v, n, got)
			}
		}
	}
	for n := int64(-1); n <= 10; n++ {
		for _, v := range []int64{-1, -2, -255, -256, -257, math.MinInt64, math.MinInt64 + 1} {
			if got := impl.PutNumber(v, n); len(got) != 0 {
				t.Errorf("PutNumber(%d, %d) is %v", v, n, got)
			}
		}
	}
}

func TestNumbersAtTheBounds(t *testing.T) {
	for n := 1; n <= 8; n++ {
		most := mostIn(n)
		for _, v := range []int64{0, 1, most / 2, most/2 + 1, most - 1, most} {
			got := impl.PutNumber(v, int64(n))
			if len(got) != n || impl.GetNumber(got) != v {
				t.Errorf("PutNumber(%d, %d) is %v", v, n, got)
			}
		}
		if n == 8 {
			continue
		}
		for _, v := range []int64{most + 1, most + 2, 2*most + 1, math.MaxInt64} {
			if got := impl.PutNumber(v, int64(n)); len(got) != 0 {
				t.Errorf("PutNumber(%d, %d) is %v", v, n, got)
			}
		}
	}
}

func TestGetNumberUndoesPutNumber(t *testing.T) {
	r := rand.New(rand.NewSource(4))
	for range 2000 {
		v := r.Int63() >> r.Intn(63)
		for n := 1; n <= 8; n++ {
			b := impl.PutNumber(v, int64(n))
			if v > mostIn(n) {
				if len(b) != 0 {
					t.Fatal(v, "does not fit into", n)
				}
				continue
			}
			if len(b) != n || impl.GetNumber(b) != v {
				t.Fatal(v, "in", n, "bytes is", b)
			}
			for i, x := range b {
				if x != byte(v>>(8*(n-1-i))) {
					t.Fatal(v, "in", n, "bytes is", b)
				}
			}
		}
	}
}

func TestPutNumberUndoesGetNumber(t *testing.T) {
	r := rand.New(rand.NewSource(5))
	for range 2000 {
		b := someBytes(r, 1+r.Intn(8))
		v := impl.GetNumber(b)
		if len(b) == 8 && b[0] >= 128 {
			if v != -1 {
				t.Fatal(b, "is more than a number, but tells", v)
			}
			continue
		}
		if !bytes.Equal(impl.PutNumber(v, int64(len(b))), b) {
			t.Fatal(b, "is told as", v)
		}
	}
}

func TestGetNumberAtTheBounds(t *testing.T) {
	for _, c := range []struct {
		b    []byte
		want int64
	}{
		{nil, -1},
		{[]byte{}, -1},
		{[]byte{0}, 0},
		{[]byte{255}, 255},
		{[]byte{255, 255, 255, 255}, 4294967295},
		{[]byte{255, 255, 255, 255, 255, 255, 255}, 72057594037927935},
		{make([]byte, 8), 0},
		{[]byte{127, 255, 255, 255, 255, 255, 255, 255}, math.MaxInt64},
		{[]byte{128, 0, 0, 0, 0, 0, 0, 0}, -1},
		{[]byte{128, 0, 0, 0, 0, 0, 0, 1}, -1},
		{[]byte{255, 255, 255, 255, 255, 255, 255, 255}, -1},
		{make([]byte, 9), -1},
		{[]byte{0, 0, 0, 0, 0, 0, 0, 0, 1}, -1},
		{[]byte{1, 0, 0, 0, 0, 0, 0, 0, 7}, -1},
		{make([]byte, 16), -1},
		{make([]byte, 256), -1},
		{make([]byte, 257), -1},
	} {
		if got := impl.GetNumber(c.b); got != c.want {
			t.Errorf("GetNumber(%v) is %d", c.b, got)
		}
	}
}

func TestSumsThatAreKnown(t *testing.T) {
	for _, c := range []struct {
		text string
		want int64
	}{
		{"", 0},
		{"123456789", 3421780262},
		{"a", 3904355907},
		{"abc", 891568578},
		{"\x00\x00\x00\x00", 558161692},
		{"\xff\xff\xff\xff", 4294967295},
		{"The quick brown fox jumps over the lazy dog", 1095738169},
	} {
		if got := impl.Crc([]byte(c.text)); got != c.want {
			t.Errorf("Crc(%q) is %d", c.text, got)
		}
	}
	if impl.Crc(nil) != 0 || impl.Crc([]byte{}) != 0 {
		t.Error("Crc of no bytes")
	}
}

// TestSumsBitByBit has all single bytes, so that each entry of a table is asked for.
func TestSumsBitByBit(t *testing.T) {
	for x := range 256 {
		b := []byte{byte(x)}
		if got := impl.Crc(b); got != plainSum(b) {
			t.Errorf("Crc(%v) is %d", b, got)
		}
	}
	r := rand.New(rand.NewSource(6))
	for n := range 300 {
		b := someBytes(r, n)
		if got := impl.Crc(b); got != plainSum(b) || got < 0 || got > 4294967295 {
			t.Fatalf("Crc(%v) is %d", b, got)
		}
	}
	for _, n := range []int{511, 512, 4092, 4096, 100000} {
		b := someBytes(r, n)
		if impl.Crc(b) != plainSum(b) {
			t.Error("Crc of", n, "bytes")
		}
	}
}

func TestSumsGoOn(t *testing.T) {
	r := rand.New(rand.NewSource(7))
	for _, n := range []int{0, 1, 2, 3, 9, 31, 32, 33, 200, 512} {
		b := someBytes(r, n)
		whole := impl.Crc(b)
		for cut := range n + 1 {
			if impl.CrcOn(impl.Crc(b[:cut]), b[cut:]) != whole {
				t.Fatal(n, "bytes cut at", cut)
			}
		}
		sum := impl.Crc(nil)
		for i := range b {
			sum = impl.CrcOn(sum, b[i:i+1])
		}
		if sum != whole {
			t.Error(n, "bytes one by one")
		}
	}
}

// TestSumsGoOnInParts also has parts without bytes.
func TestSumsGoOnInParts(t *testing.T) {
	r := rand.New(rand.NewSource(8))
	for range 200 {
		var whole []byte
		sum := impl.Crc(nil)
		for range 1 + r.Intn(6) {
			part := someBytes(r, r.Intn(20))
			whole = append(whole, part...)
			sum = impl.CrcOn(sum, part)
		}
		if sum != impl.Crc(whole) || sum != plainSum(whole) {
			t.Fatalf("%v in parts has the sum %d", whole, sum)
		}
	}
}

func TestSumsToGoOnFrom(t *testing.T) {
	lists := [][]byte{nil, {}, {0}, {1}, {255}, []byte("123456789"), make([]byte, 600)}
	for _, b := range lists {
		for _, sum := range []int64{-1, -2, 4294967296, 4294967297, 8589934591, 1 << 40, math.MinInt64, math.MaxInt64, -4294967295, -4294967296} {
			if got := impl.CrcOn(sum, b); got != -1 {
				t.Errorf("CrcOn(%d, %v) is %d", sum, b, got)
			}
		}
		if got := impl.CrcOn(0, b); got != plainSum(b) {
			t.Errorf("CrcOn(0, %v) is %d", b, got)
		}
		// Four bytes 255 have the sum 4294967295, so to go on from it is to stand behind them.
		if got := impl.CrcOn(4294967295, b); got != plainSum(append([]byte{255, 255, 255, 255}, b...)) {
			t.Errorf("CrcOn(4294967295, %v) is %d", b, got)
		}
	}
	for _, sum := range []int64{0, 1, 255, 65536, 2147483647, 2147483648, 4294967294, 4294967295} {
		if impl.CrcOn(sum, nil) != sum || impl.CrcOn(sum, []byte{}) != sum {
			t.Error("no bytes change the sum", sum)
		}
	}
	// Sum and byte both differ from 0 in the lowest bit, so this is the sum of one byte 0.
	if got := impl.CrcOn(1, []byte{1}); got != 3523407757 {
		t.Error("CrcOn of 1 and the byte 1 is", got)
	}
	r := rand.New(rand.NewSource(13))
	for range 500 {
		sum, b := int64(r.Uint32()), someBytes(r, r.Intn(12))
		if got := impl.CrcOn(sum, b); got != plainOn(sum, b) {
			t.Fatalf("CrcOn(%d, %v) is %d", sum, b, got)
		}
	}
}

// turn turns the bits of the pattern, from the bit at on; bits are counted from the lowest of each byte.
func turn(b []byte, at int, pattern uint32) []byte {
	c := append([]byte(nil), b...)
	for i := range 32 {
		if pattern>>i&1 == 1 && (at+i)/8 < len(c) {
			c[(at+i)/8] ^= 1 << ((at + i) % 8)
		}
	}
	return c
}

func TestTurnedBitsChangeTheSum(t *testing.T) {
	r := rand.New(rand.NewSource(9))
	for _, n := range []int{1, 2, 4, 5, 20, 64} {
		b := someBytes(r, n)
		sum := impl.Crc(b)
		for at := range 8 * n {
			patterns := []uint32{1, 3, math.MaxUint32, 3988292384 | 1, 1<<31 | 1}
			for i := 1; i < 32; i++ {
				patterns = append(patterns, 1|1<<i, 1|r.Uint32())
			}
			for _, p := range patterns {
				if other := turn(b, at, p); impl.Crc(other) == sum {
					t.Fatalf("%v and %v have one sum", b, other)
				}
			}
		}
	}
}

// TestTurnedBitsInAPage has as many bytes as a page has behind its sum.
func TestTurnedBitsInAPage(t *testing.T) {
	r := rand.New(rand.NewSource(10))
	b := someBytes(r, 4092)
	sum := impl.Crc(b)
	for range 300 {
		at, p := r.Intn(8*len(b)), 1|r.Uint32()
		if impl.Crc(turn(b, at, p)) == sum {
			t.Fatal("the bits", p, "turned at", at, "leave the sum")
		}
	}
	for _, at := range []int{0, 8*len(b) - 32, 8*len(b) - 1} {
		if impl.Crc(turn(b, at, 1)) == sum || impl.Crc(turn(b, at, math.MaxUint32)) == sum {
			t.Error("bits turned at", at, "leave the sum")
		}
	}
}

// TestTurnedBitsChangeASumThatGoesOn turns bits on both sides of the cut.
func TestTurnedBitsChangeASumThatGoesOn(t *testing.T) {
	r := rand.New(rand.NewSource(11))
	b := someBytes(r, 40)
	sum := impl.Crc(b)
	for at := range 8 * len(b) {
		other := turn(b, at, 1|r.Uint32())
		for _, cut := range []int{0, 1, 20, 39, 40} {
			if impl.CrcOn(impl.Crc(other[:cut]), other[cut:]) == sum {
				t.Fatal("bits turned at", at, "leave the sum that goes on at", cut)
			}
		}
	}
}
