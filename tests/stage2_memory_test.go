package tests

import (
	"bytes"
	"math"
	"math/rand"
	"os"
	"os/exec"
	"sync"
	"testing"

	"loop.example/s02544/impl"
)

// sumCalls are the functions of chapter 2 that take bytes.
func sumCalls() map[string]func(b []byte) int64 {
	return map[string]func(b []byte) int64{
		"GetNumber":               impl.GetNumber,
		"Crc":                     impl.Crc,
		"CrcOn 0":                 func(b []byte) int64 { return impl.CrcOn(0, b) },
		"CrcOn 3421780262":        func(b []byte) int64 { return impl.CrcOn(3421780262, b) },
		"CrcOn 4294967295":        func(b []byte) int64 { return impl.CrcOn(4294967295, b) },
		"CrcOn a sum too small":   func(b []byte) int64 { return impl.CrcOn(-1, b) },
		"CrcOn a sum too great":   func(b []byte) int64 { return impl.CrcOn(4294967296, b) },
		"CrcOn the greatest sum":  func(b []byte) int64 { return impl.CrcOn(math.MaxInt64, b) },
		"CrcOn the smallest sum":  func(b []byte) int64 { return impl.CrcOn(math.MinInt64, b) },
		"CrcOn, once around Crc":  func(b []byte) int64 { return impl.CrcOn(impl.Crc(b), b) },
		"CrcOn, twice around Crc": func(b []byte) int64 { return impl.CrcOn(impl.CrcOn(impl.Crc(b), b), b) },
	}
}

// roomy has bytes behind the list's end too, which are no part of it.
func roomy(b []byte) []byte {
	all := append(append([]byte(nil), b...), bytes.Repeat([]byte{77}, 40)...)
	return all[:len(b)]
}

func TestSumsChangeNoArgument(t *testing.T) {
	r := rand.New(rand.NewSource(12))
	for name, call := range sumCalls() {
		for n := range 20 {
			b := roomy(someBytes(r, n))
			before := append([]byte(nil), b[:cap(b)]...)
			first := call(b)
			if !bytes.Equal(b[:cap(b)], before) {
				t.Fatal(name, "changes its bytes")
			}
			if call(b) != first || call(append([]byte(nil), b...)) != first {
				t.Fatal(name, "answers something else to the same bytes")
			}
		}
	}
}

func TestSumsForgetTheCallsBefore(t *testing.T) {
	b := []byte("123456789")
	for name, call := range sumCalls() {
		want := call(b)
		for other, meanwhile := range sumCalls() {
			meanwhile([]byte("something else"))
			meanwhile(nil)
			if call(b) != want {
				t.Error(name, "answers something else behind", other)
			}
		}
	}
}

func TestPutNumbersShareNothing(t *testing.T) {
	for n := int64(1); n <= 8; n++ {
		for _, v := range []int64{0, 1, 255} {
			first := impl.PutNumber(v, n)
			kept := append([]byte(nil), first...)
			scribble(impl.PutNumber(v, n), 99)
			scribble(impl.PutNumber(v+1, 8), 98)
			if !bytes.Equal(first, kept) {
				t.Fatal("PutNumber answers the same memory twice:", v, n)
			}
			scribble(first, 97)
			if !bytes.Equal(impl.PutNumber(v, n), kept) {
				t.Fatal("PutNumber answers what was written over:", v, n)
			}
		}
	}
}

const firstCall = "FIRST_CALL"

// firstCalls are each made as the first call of a process.
func firstCalls() map[string]func() bool {
	b := []byte("123456789")
	return map[string]func() bool{
		"Crc":            func() bool { return impl.Crc(b) == 3421780262 },
		"Crc of nothing": func() bool { return impl.Crc(nil) == 0 && impl.Crc(b) == 3421780262 },
		"CrcOn":          func() bool { return impl.CrcOn(plainSum(b[:4]), b[4:]) == 3421780262 },
		"CrcOn refused":  func() bool { return impl.CrcOn(-1, b) == -1 && impl.CrcOn(0, b) == 3421780262 },
		"GetNumber":      func() bool { return impl.GetNumber(b[:2]) == 12594 },
		"PutNumber":      func() bool { return bytes.Equal(impl.PutNumber(12594, 2), b[:2]) },
		"many at once":   manyFirstSums,
	}
}

// manyFirstSums lets all go at the same time, each on bytes of its own.
func manyFirstSums() bool {
	const many = 64
	var begin, ended sync.WaitGroup
	begin.Add(1)
	var got, want [many]int64
	for i := range many {
		b := bytes.Repeat([]byte{byte(255 - i), byte(i)}, 50)
		want[i] = plainSum(b)
		ended.Go(func() {
			begin.Wait()
			got[i] = impl.CrcOn(impl.Crc(b[:i]), b[i:])
		})
	}
	begin.Done()
	ended.Wait()
	return got == want
}

// TestFirstCalls starts itself anew, since in this process some other test may have been the first to ask.
func TestFirstCalls(t *testing.T) {
	if name := os.Getenv(firstCall); name != "" {
		if call := firstCalls()[name]; call == nil || !call() {
			t.Fatal("the very first call:", name)
		}
		return
	}
	self, err := os.Executable()
	if err != nil {
		t.Fatal(err)
	}
	for name := range firstCalls() {
		rounds := 1
		if name == "many at once" {
			rounds = 12
		}
		for range rounds {
			c := exec.Command(self, "-test.run=^TestFirstCalls$")
			c.Env = append(os.Environ(), firstCall+"="+name)
			if out, err := c.CombinedOutput(); err != nil {
				t.Fatal(name, err, string(out))
			}
		}
	}
}

func TestSumsAtTheSameTime(t *testing.T) {
	for range 20 {
		if !manyFirstSums() {
			t.Fatal("sums that are made at the same time")
		}
	}
}

func TestNumbersAtTheSameTime(t *testing.T) {
	var all sync.WaitGroup
	var wrong [32]int64
	for i := range wrong {
		all.Go(func() {
			for v := range int64(500) {
				if impl.GetNumber(impl.PutNumber(v+int64(i), 2)) != v+int64(i) {
					wrong[i]++
				}
			}
		})
	}
	all.Wait()
	if wrong != [32]int64{} {
		t.Error("numbers that are put at the same time")
	}
}
