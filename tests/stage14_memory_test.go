package tests

import (
	"bytes"
	"math/rand"
	"slices"
	"sync"
	"testing"

	"loop.example/s02544/impl"
)

// textArgument is what FormatScript takes.
type textArgument struct {
	g     impl.Geometry
	steps []impl.Step
}

func textArguments() []textArgument {
	r := rand.New(rand.NewSource(1409))
	g := smallest(1)
	list := []textArgument{{g, nil}, {g, stepOfEachKind()}, {impl.Geometry{}, stepOfEachKind()}, {g, script(stepOfEachKind(), wrongSteps()[0])}, {g, script(crashes(1, 0, 2), crashes(1))}}
	for _, c := range stepLines() {
		list = append(list, textArgument{g, script(c.step, c.step)})
	}
	for range 20 {
		list = append(list, textArgument{anyGeometry(r), anyTextSteps(r, 20)})
	}
	return list
}

// roomySteps have something behind the ends of their lists too.
func roomySteps(list []impl.Step) []impl.Step {
	steps := append(copySteps(list), begins(), cuts(5))
	for i, s := range steps {
		steps[i].Data, steps[i].Keep = roomy(s.Data), append(slices.Clone(s.Keep), 1, 0)[:len(s.Keep)]
	}
	return steps[:len(list)]
}

// wholeSteps shows what stands behind the ends of the lists too.
func wholeSteps(list []impl.Step) []impl.Step {
	steps := slices.Clone(list[:cap(list)])
	for i, s := range steps {
		steps[i].Data, steps[i].Keep = s.Data[:cap(s.Data)], s.Keep[:cap(s.Keep)]
	}
	return steps
}

func scribbleSteps(list []impl.Step, v byte) {
	for i, s := range list {
		scribble(s.Data, v)
		scribbleNumbers(s.Keep, v)
		list[i] = impl.Step{Kind: int64(v)}
	}
}

func TestTextsChangeNoArgument(t *testing.T) {
	for _, a := range textArguments() {
		given := roomySteps(a.steps)
		kept := copySteps(wholeSteps(given))
		if impl.FormatScript(a.g, given) != plainScript(a.g, a.steps) {
			t.Error("what stands behind the ends of", a, "is told")
		}
		for _, s := range given {
			impl.EncodeHex(s.Data)
		}
		if !sameSteps(wholeSteps(given), kept) {
			t.Error("to tell", a, "changes an argument")
		}
	}
	r := rand.New(rand.NewSource(1410))
	for range 300 {
		report := anyReport(r)
		kept := copyReport(report)
		for i, a := range report.Answers {
			report.Answers[i].Data, report.Answers[i].Records = roomy(a.Data), roomyRecords(a.Records)
		}
		report.Room = append(slices.Clone(report.Room), 77)[:len(report.Room)]
		if impl.FormatAnswers(report) != plainAnswers(kept) || !sameReport(report, kept) {
			t.Error("to tell the answers", kept, "changes an argument")
		}
		if report.Room[:len(kept.Room)+1][len(kept.Room)] != 77 {
			t.Error("to tell the answers", kept, "changes what stands behind an argument")
		}
	}
}

func TestTextsOutliveTheirArguments(t *testing.T) {
	for _, a := range textArguments() {
		given := roomySteps(a.steps)
		text := impl.FormatScript(a.g, given)
		var words []string
		for _, s := range given {
			words = append(words, impl.EncodeHex(s.Data))
		}
		scribbleSteps(given, 98)
		if text != plainScript(a.g, a.steps) {
			t.Error("the text of", a, "keeps memory of an argument")
		}
		for i, s := range a.steps {
			if words[i] != plainHex(s.Data) {
				t.Error("the digits of", s, "keep memory of an argument")
			}
		}
	}
	r := rand.New(rand.NewSource(1411))
	for range 100 {
		report := anyReport(r)
		want := plainAnswers(report)
		text := impl.FormatAnswers(report)
		scribbleReport(report, 97)
		if text != want {
			t.Error("the text of answers keeps memory of an argument")
		}
	}
}

func TestWhatIsReadIsNewMemory(t *testing.T) {
	for _, a := range textArguments() {
		text := impl.FormatScript(a.g, a.steps)
		first, second := impl.ParseScript(text), impl.ParseScript(text)
		scribbleSteps(first.Steps[:cap(first.Steps)], 99)
		if want := plainParse(text); !sameScript(second, want) || !sameScript(impl.ParseScript(text), want) {
			t.Errorf("%.60q is told in the same memory twice", text)
		}
	}
	for _, word := range []string{"00", "0a0b", impl.EncodeHex(make([]byte, 5000))} {
		first, second := impl.DecodeHex(word), impl.DecodeHex(word)
		scribble(first.Data, 99)
		if !bytes.Equal(second.Data, plainBytes(word)) || !bytes.Equal(impl.DecodeHex(word).Data, plainBytes(word)) {
			t.Error("digits are told in the same memory twice")
		}
	}
}

// TestNoTwoListsOfAScriptShareMemory fills each list up to its capacity, and asks all others.
func TestNoTwoListsOfAScriptShareMemory(t *testing.T) {
	for _, a := range textArguments() {
		steps := impl.ParseScript(impl.FormatScript(a.g, a.steps)).Steps
		for i, s := range steps {
			scribble(s.Data, byte(i))
			scribbleNumbers(s.Keep, byte(i))
		}
		for i, s := range steps {
			if slices.ContainsFunc(s.Data, func(x byte) bool { return x != byte(i) }) || slices.ContainsFunc(s.Keep, func(n int64) bool { return n != int64(i) }) {
				t.Fatal("two lists of a script share memory:", a)
			}
		}
	}
}

// TestEmptyListsOfAScriptAreNil: the document takes them as one value.
func TestEmptyListsOfAScriptAreNil(t *testing.T) {
	g := smallest(1)
	for _, c := range stepLines() {
		full, bare := c.step, c.step
		if len(full.Data) == 0 {
			full.Data, bare.Data = []byte{}, nil
		}
		if len(full.Keep) == 0 {
			full.Keep, bare.Keep = []int64{}, nil
		}
		want := "heap 1 3 33\n" + c.line + "\n"
		if impl.FormatScript(g, script(full)) != want || impl.FormatScript(g, script(bare)) != want {
			t.Errorf("an empty list is not what nil is: %.60q", want)
		}
	}
	if impl.FormatScript(g, []impl.Step{}) != impl.FormatScript(g, nil) {
		t.Error("no steps are not what nil is")
	}
	empty := impl.Report{Answers: []impl.Answer{{Data: []byte{}, Records: []impl.HeapRecord{}}}, Room: []int64{}}
	if impl.FormatAnswers(empty) != impl.FormatAnswers(impl.Report{Answers: []impl.Answer{{}}}) {
		t.Error("empty lists of a report are not what nil is")
	}
}

func TestTextsHangOnTheirArgumentsAlone(t *testing.T) {
	arguments := textArguments()
	var texts []string
	for _, a := range arguments {
		texts = append(texts, plainScript(a.g, a.steps))
	}
	texts = append(texts, badTexts()...)
	var want []impl.ScriptResult
	for _, text := range texts {
		want = append(want, plainParse(text))
	}
	var all sync.WaitGroup
	var wrong [6]int
	for i := range wrong {
		all.Go(func() {
			for range 5 {
				for k, text := range slices.Backward(texts) {
					if !sameScript(impl.ParseScript(text), want[k]) {
						wrong[i]++
					}
				}
				for k, a := range arguments {
					if impl.FormatScript(a.g, a.steps) != texts[k] {
						wrong[i]++
					}
				}
			}
		})
	}
	all.Wait()
	if wrong != [6]int{} {
		t.Error("the same call twice, or at the same time, has another answer")
	}
}

// TestAnyBytesAsTextAreAnswered has texts of any bytes, long ones too.
func TestAnyBytesAsTextAreAnswered(t *testing.T) {
	r := rand.New(rand.NewSource(1412))
	for range 3000 {
		text := string(someBytes(r, r.Intn(60)))
		if r.Intn(3) == 0 {
			text = "heap 1 3 33\n" + text
		}
		if !sameScript(impl.ParseScript(text), plainParse(text)) || impl.Serve(text) != plainServe(text) {
			t.Fatalf("%q is a script", text)
		}
	}
	for _, n := range []int{1000, mostScript, 3 * mostScript} {
		text := string(someBytes(r, n))
		if impl.ParseScript(text).Good || impl.Serve(text) != "bad\n" || impl.DecodeHex(text).Good {
			t.Error("any", n, "bytes are a script, or digits")
		}
	}
}
