package tests

import (
	"fmt"
	"math/rand"
	"slices"
	"strings"
	"testing"

	"loop.example/s02544/impl"
)

// sampleScript has each kind of line.
const sampleScript = "heap 2 4 60\nrestart\nbegin\ninsert 1 6162\ninsert -1 -\nupdate 1 10 0f\ndelete 1 0\nread 20 -7\ncommit 1\nabort 2\ncheckpoint\ncrash 0110\ncrash -\ncut -1\ncut 1000000\n"

func mustBeNone(t *testing.T, why, text string) {
	t.Helper()
	if got := impl.ParseScript(text); !sameScript(got, impl.ScriptResult{}) {
		t.Errorf("%s: %.120q is told as %v", why, text, got)
	}
}

// TestWhatIsBarredOfAScript changes each line of a script in one way at a time.
func TestWhatIsBarredOfAScript(t *testing.T) {
	if got := impl.ParseScript(sampleScript); !got.Good || len(got.Steps) != 14 {
		t.Fatal("the script that is changed is none:", got)
	}
	lines := strings.SplitAfter(strings.TrimSuffix(sampleScript, "\n"), "\n")
	lines[len(lines)-1] += "\n"
	for i, line := range lines {
		ahead, behind := strings.Join(lines[:i], ""), strings.Join(lines[i+1:], "")
		for why, changed := range changedLines(strings.TrimSuffix(line, "\n")) {
			mustBeNone(t, why, ahead+changed+behind)
		}
		mustBeNone(t, "an empty line ahead", ahead+"\n"+line+behind)
		mustBeNone(t, "a second heap ahead", ahead+"heap 2 4 60\n"+line+behind)
		mustBeNone(t, "a text that ends within a line", ahead+strings.TrimSuffix(line, "\n"))
	}
	mustBeNone(t, "an empty line at the end", sampleScript+"\n")
	mustBeNone(t, "a second heap at the end", sampleScript+"heap 2 4 60\n")
	mustBeNone(t, "no heap", strings.TrimPrefix(sampleScript, "heap 2 4 60\n"))
	mustBeNone(t, "a second script", sampleScript+sampleScript)
}

// changedLines are forms of a line that are none, by what is wrong with them.
func changedLines(line string) map[string]string {
	list := map[string]string{
		"a blank at the beginning":           " " + line + "\n",
		"a blank at the end":                 line + " \n",
		"a tab at the end":                   line + "\t\n",
		"a carriage return at the end":       line + "\r\n",
		"a carriage return for a line feed":  line + "\r",
		"a carriage return at the beginning": "\r" + line + "\n",
		"a zero byte at the end":             line + "\x00\n",
		"no line feed":                       line,
		"a mark of the order of bytes":       "\ufeff" + line + "\n",
		"a capital letter":                   strings.ToUpper(line[:1]) + line[1:] + "\n",
		"all letters capital":                strings.ToUpper(line) + "\n",
		"an unknown word":                    "begins" + line + "\n",
		"a remark":                           line + " #\n",
		"an empty word":                      "\n",
		"a blank alone":                      " \n",
		"a dash alone":                       "-\n",
	}
	for _, more := range []string{"0", "1", "-", "00", "x", "heap", "begin"} {
		list["a word too many: "+more] = line + " " + more + "\n"
	}
	words := strings.Split(line, " ")
	for i, word := range words {
		with := func(put ...string) string {
			return strings.Join(slices.Concat(words[:i], put, words[i+1:]), " ") + "\n"
		}
		where := fmt.Sprint(" at the word ", i)
		list["a word too few"+where] = with()
		list["two blanks"+where] = with("", word)
		list["a tab"+where] = strings.Join(words[:i], " ") + "\t" + strings.Join(words[i:], " ") + "\n"
		list["a wide blank"+where] = strings.Join(words[:i], " ") + "\u00a0" + strings.Join(words[i:], " ") + "\n"
		for _, bad := range badWords(words[0], i) {
			list[fmt.Sprintf("the word %.30q%s", bad, where)] = with(bad)
		}
	}
	return list
}

// badWords are none at this place of a line.
func badWords(kind string, place int) []string {
	list := []string{"", "+", "--", "+0", "+1", "-00", "-01", "00-", "0-", "0x1", "1.0", "1_0", "aB", "0g", "g0", "\x80", "é", "\u0661", "\xff\xff", "0\x00", "\u00e910"}
	digits := []string{"0", "1", "00", "01", "-0", "-1"}
	great := []string{"9223372036854775808", "-9223372036854775809", "18446744073709551616", "18446744073709551617", strings.Repeat("9", 200)}
	switch {
	case place == 0:
		return slices.Concat(list, digits, great, []string{"-", "a", "be", "begi", "beginn", "begin\x00", "txn", "hea", "heaps", "Begin", "RESTART"})
	case kind == "crash":
		return append(list, "2", "3", "012", "210", "-0", "-1", "a", "ab", "/", ":", textOf(mostPending+1, '0'))
	case place == 2 && kind == "insert", place == 3 && kind == "update":
		return append(list, "0", "a", "-0", "-1", "-00", "-ab", "ab-", "abc", "AB", "0A", "A0", "FF", "/0", "0:", "`0", "0@")
	}
	return slices.Concat(list, great, []string{"-", "-0", "00", "01", "007", "a", "1a", "1e1", "0b1", "0o7", "--1", "1-", "-+1"})
}

func TestTextsThatAreNoScript(t *testing.T) {
	for _, text := range []string{
		"", "\n", "\n\n", " ", "-", "heap", "heap\n", "heap \n", "heap 1 3\n", "heap 1 3 33", "heap 1 3 33 \n", "heap 1 3 33 0\n", "Heap 1 3 33\n", "heaps 1 3 33\n",
		"1 3 33\n", "heap  1 3 33\n", "heap 1 3 33\r\n", "heap 1 3 33\r", "heap\t1 3 33\n", "heap +1 3 33\n", "heap 01 3 33\n", "heap 1 3 033\n", "heap -1 3 33\n", "heap 1 -3 33\n",
		"heap 1 3 -33\n", "heap - 3 33\n", "heap 1 3 18446744073709551649\n", "heap 18446744073709551617 3 33\n", "heap 4294967297 3 33\n", "\nheap 1 3 33\n", "heap 1 3 33\n\n", "heap 1 3 33\nheap 1 3 33\n",
		"begin\n", "begin\nheap 1 3 33\n", "restart\nbegin\n", "bad\n", "up 11931 3945\n", "heap 1 3 33\nbegin", "heap 1 3 33\nbeg\nin\n", "heap 1\n3 33\n", "heap 1 3 33 begin\n",
		"heap 1 3 33\nbegin 1\n", "heap 1 3 33\ntxn\n", "heap 1 3 33\ninsert txn data\n", "heap 1 3 33\ncrash keep\n", "heap 1 3 33\ncut -2\n", "heap 1 3 33\ncut 1000001\n",
		"heap 1 3 33\ncut 18446744073709551615\n", "heap 1 3 33\ncrash\n", "heap 1 3 33\ncrash \n", "heap 1 3 33\ncrash 0 1\n", "heap 1 3 33\ncrash 012\n", "heap 1 3 33\ncrash /\n",
		"heap 1 3 33\ncrash " + textOf(mostPending+1, '0') + "\n", "heap 1 3 33\ncrash " + textOf(mostPending+1, '1') + "\n",
		"\x00", "\xff\xfe", "\u00e9", textOf(mostScript, ' '), textOf(mostScript, '\n'), textOf(mostScript+1, '\n'), "heap 1 3 33\n" + textOf(mostScript, '\n'), strings.Repeat("begin\n", 60000),
	} {
		mustBeNone(t, "no script", text)
	}
	for _, g := range faultyGeometries() {
		mustBeNone(t, "a faulty geometry", plainHeapLine(g))
		mustBeNone(t, "a faulty geometry with steps", plainHeapLine(g)+"restart\nbegin\n")
	}
}

func TestTheMostStepsAsText(t *testing.T) {
	for _, s := range stepOfEachKind() {
		text := "heap 1 3 33\n" + strings.Repeat(plainStepLine(s), mostSteps)
		got := impl.ParseScript(text)
		if !got.Good || len(got.Steps) != mostSteps || !sameSteps(got.Steps[mostSteps-1:], script(s)) {
			t.Error("the most steps of the kind", s.Kind, "are told as", got.Good, len(got.Steps))
		}
		mustBeNone(t, "a step too many", text+plainStepLine(s))
		mustBeNone(t, "a step too many, and a line that is none", text+plainStepLine(s)+"x\n")
	}
}

// TestTheLongestScript has texts of nearly, exactly and more than the most bytes.
func TestTheLongestScript(t *testing.T) {
	for _, size := range []int{mostScript - 1, mostScript, mostScript + 1, mostScript + 2, mostScript + 5000, 2 * mostScript} {
		g, steps := fullScript(size)
		text := impl.FormatScript(g, steps)
		if len(text) != size || text != plainScript(g, steps) {
			t.Fatal("a script of", size, "bytes has", len(text))
		}
		want := impl.ScriptResult{}
		if size <= mostScript {
			want = impl.ScriptResult{Good: true, Geometry: g, Steps: steps}
		}
		if !sameScript(impl.ParseScript(text), want) {
			t.Error("a script of", size, "bytes is told wrongly")
		}
		if bad := impl.Serve(text) == "bad\n"; bad != (size > mostScript) {
			t.Error("Serve of a script of", size, "bytes: bad is", bad)
		}
	}
}

// changedText has some places of a text changed, mostly in ways that nearly leave it a script.
func changedText(r *rand.Rand, text string) string {
	const signs = "0123456789abcdef01 -\n+\tAxt\r\xe9"
	for range 1 + r.Intn(2) {
		if len(text) == 0 {
			return text
		}
		at := r.Intn(len(text))
		sign := signs[r.Intn(len(signs))]
		lines := strings.SplitAfter(text, "\n")
		line := r.Intn(len(lines))
		switch r.Intn(8) {
		case 0, 1, 2:
			text = text[:at] + string([]byte{sign}) + text[at+1:]
		case 3:
			text = text[:at] + string([]byte{sign}) + text[at:]
		case 4:
			text = text[:at] + text[at+1:]
		case 5:
			text = strings.Join(slices.Insert(lines, line, lines[r.Intn(len(lines))]), "")
		case 6:
			text = strings.Join(slices.Delete(lines, line, line+1), "")
		case 7:
			other := r.Intn(len(lines))
			lines[line], lines[other] = lines[other], lines[line]
			text = strings.Join(lines, "")
		}
	}
	return text
}

// TestATextThatIsReadIsItsForm asks a second judge of texts that were changed at random places.
func TestATextThatIsReadIsItsForm(t *testing.T) {
	r := rand.New(rand.NewSource(1404))
	geometries := goodGeometries()
	good := 0
	const all = 40000
	for range all {
		text := changedText(r, impl.FormatScript(geometries[r.Intn(len(geometries))], anyTextSteps(r, r.Intn(10))))
		got := impl.ParseScript(text)
		if want := plainParse(text); !sameScript(got, want) {
			t.Fatalf("%q is told as %v and not %v", text, got, want)
		}
		if got.Good {
			good++
			if impl.FormatScript(got.Geometry, got.Steps) != text {
				t.Fatalf("%q is not the form of what was read", text)
			}
		}
	}
	if good < all/10 || good > all-all/10 {
		t.Error("so many were scripts:", good)
	}
}

// TestEachSignOfAScript puts each byte at each place of a text, in the place of what stands there and ahead of it.
func TestEachSignOfAScript(t *testing.T) {
	const text = "heap 1 3 40\ninsert 1 0a\nread 10 -2\ncrash 01\ncut -1\nbegin\n"
	good := 0
	for at := range len(text) {
		for sign := range 256 {
			for _, changed := range []string{text[:at] + string([]byte{byte(sign)}) + text[at+1:], text[:at] + string([]byte{byte(sign)}) + text[at:]} {
				got := impl.ParseScript(changed)
				if !sameScript(got, plainParse(changed)) {
					t.Fatalf("%q is told as %v", changed, got)
				}
				if got.Good {
					good++
				}
			}
		}
	}
	if good < 100 {
		t.Error("so few were scripts:", good)
	}
}
