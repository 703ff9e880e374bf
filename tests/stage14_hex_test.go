package tests

import (
	"bytes"
	"math/rand"
	"regexp"
	"strings"
	"testing"

	"loop.example/s02544/impl"
)

func TestHexOfEachByte(t *testing.T) {
	const digits = "0123456789abcdef"
	all := ""
	var bytesOfAll []byte
	for n := range 256 {
		want := digits[n/16:n/16+1] + digits[n%16:n%16+1]
		if got := impl.EncodeHex([]byte{byte(n)}); got != want {
			t.Error("the byte", n, "is", got, "and not", want)
		}
		if got := impl.DecodeHex(want); !got.Good || !bytes.Equal(got.Data, []byte{byte(n)}) {
			t.Error(want, "is", got)
		}
		all += want
		bytesOfAll = append(bytesOfAll, byte(n))
	}
	if impl.EncodeHex(bytesOfAll) != all || !bytes.Equal(impl.DecodeHex(all).Data, bytesOfAll) {
		t.Error("all bytes in a row are told wrongly")
	}
}

func TestHexOfNoBytes(t *testing.T) {
	for _, b := range [][]byte{nil, {}, roomy(nil)} {
		if got := impl.EncodeHex(b); got != "-" {
			t.Error("no bytes are", got)
		}
	}
	if got := impl.DecodeHex("-"); !got.Good || len(got.Data) != 0 {
		t.Error("the word of no bytes is", got)
	}
}

func TestHexOfManyBytes(t *testing.T) {
	r := rand.New(rand.NewSource(1401))
	for _, n := range []int{1, 2, 3, 15, 16, 17, 255, 256, 257, 1000, 65536, mostStepData, 300001} {
		b := someBytes(r, n)
		s := impl.EncodeHex(roomy(b))
		if s != plainHex(b) {
			t.Fatal(n, "bytes are told wrongly")
		}
		if got := impl.DecodeHex(s); !got.Good || !bytes.Equal(got.Data, b) {
			t.Fatal(n, "bytes are not told back")
		}
		if got := impl.DecodeHex(s[1:]); got.Good || len(got.Data) != 0 {
			t.Fatal(n, "bytes without a digit are told as", len(got.Data))
		}
	}
}

func TestWhatIsNoHex(t *testing.T) {
	list := []string{"", "0", "a", "f", "00a", "abcde", "--", "---", "-0", "-00", "0-", "00-", "-a", "a-", "-ab", "ab-", "00-00", "0x00", "0X", "+0", "-1",
		" ", "\n", " 00", "00 ", "0 0", "00 00", "00\n", "\n00", "00\r\n", "- ", " -", "-\n", "\t-", "00\x00", "\x00\x00", "\u00e9", "\u0660\u0660", "00\xff", "\xff\xff", "\x80\x81", "é0"}
	for _, sign := range []string{"A", "B", "C", "D", "E", "F", "g", "G", "z", "/", ":", "`", "@", " ", "-", "+", "_", ".", "\n", "\x00", "\x7f", "\x80", "\xb0", "\xc3", "\xe1", "\xff"} {
		list = append(list, "0"+sign, sign+"0", "a"+sign+"00", sign+"a00", "000"+sign, "00"+sign+"0", sign+sign)
	}
	for _, s := range list {
		if got := impl.DecodeHex(s); got.Good || len(got.Data) != 0 {
			t.Errorf("%q is told as %v", s, got)
		}
	}
}

// TestAnyTextAsHex holds DecodeHex against a pattern.
func TestAnyTextAsHex(t *testing.T) {
	r := rand.New(rand.NewSource(1402))
	is := regexp.MustCompile(`^(?:-|(?:[0-9a-f]{2})+)$`)
	const signs = "0123456789abcdef0123456789abcdef0123456789abcdefAFg- \n\xe9"
	good := 0
	for range 40000 {
		var text strings.Builder
		for range r.Intn(9) {
			text.WriteByte(signs[r.Intn(len(signs))])
		}
		s := text.String()
		got := impl.DecodeHex(s)
		if got.Good != is.MatchString(s) {
			t.Fatalf("%q is told as %v", s, got)
		}
		if !got.Good && len(got.Data) != 0 {
			t.Fatalf("%q is none and has data", s)
		}
		if got.Good {
			good++
			if impl.EncodeHex(got.Data) != s || !bytes.Equal(got.Data, plainBytes(s)) {
				t.Fatalf("%q has another form", s)
			}
		}
	}
	if good < 3000 || good > 37000 {
		t.Error("so many were good:", good)
	}
}
