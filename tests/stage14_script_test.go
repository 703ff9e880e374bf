package tests

import (
	"math"
	"math/rand"
	"strings"
	"testing"

	"loop.example/s02544/impl"
)

// stepLines are steps with their lines, written by hand.
func stepLines() []struct {
	step impl.Step
	line string
} {
	return []struct {
		step impl.Step
		line string
	}{
		{begins(), "begin"},
		{inserts(1, "one"), "insert 1 6f6e65"},
		{inserts(0, ""), "insert 0 -"},
		{inserts(-17, "\x00\xff"), "insert -17 00ff"},
		{updates(2, 1, "twice"), "update 2 1 7477696365"},
		{updates(0, 0, ""), "update 0 0 -"},
		{updates(math.MinInt64, math.MaxInt64, "\x0a"), "update -9223372036854775808 9223372036854775807 0a"},
		{deletes(3, 40), "delete 3 40"},
		{deletes(0, -1), "delete 0 -1"},
		{deletes(math.MaxInt64, math.MinInt64), "delete 9223372036854775807 -9223372036854775808"},
		{reads(1, 0), "read 1 0"},
		{reads(-9, 1000000), "read -9 1000000"},
		{commits(1), "commit 1"},
		{commits(0), "commit 0"},
		{commits(math.MinInt64), "commit -9223372036854775808"},
		{aborts(20), "abort 20"},
		{aborts(math.MaxInt64), "abort 9223372036854775807"},
		{checkpoints(), "checkpoint"},
		{restarts(), "restart"},
		{crashes(), "crash -"},
		{crashes(0), "crash 0"},
		{crashes(1), "crash 1"},
		{crashes(0, 1, 1, 0, 0), "crash 01100"},
		{crashes(keepAll(mostPending)...), "crash " + textOf(mostPending, '1')},
		{crashes(make([]int64, mostPending)...), "crash " + textOf(mostPending, '0')},
		{cuts(-1), "cut -1"},
		{cuts(0), "cut 0"},
		{cuts(12), "cut 12"},
		{cuts(mostIO), "cut 1000000"},
	}
}

func TestTheLineOfEachStep(t *testing.T) {
	g := smallest(1)
	all := "heap 1 3 33\n"
	var steps []impl.Step
	for _, c := range stepLines() {
		want := "heap 1 3 33\n" + c.line + "\n"
		if got := impl.FormatScript(g, script(c.step)); got != want {
			t.Errorf("the line %.60q is %.60q", want, got)
		}
		if got := impl.ParseScript(want); !sameScript(got, impl.ScriptResult{Good: true, Geometry: g, Steps: script(c.step)}) {
			t.Errorf("the line %.60q is not told back", want)
		}
		all, steps = all+c.line+"\n", append(steps, c.step)
	}
	if impl.FormatScript(g, steps) != all {
		t.Error("all lines together are told wrongly")
	}
	if got := impl.ParseScript(all); !sameScript(got, impl.ScriptResult{Good: true, Geometry: g, Steps: steps}) {
		t.Error("all lines together are not told back")
	}
}

func TestTheLineOfEachGeometry(t *testing.T) {
	for _, g := range goodGeometries() {
		for _, steps := range [][]impl.Step{nil, {}, {begins()}} {
			want := plainHeapLine(g) + strings.Repeat("begin\n", len(steps))
			if got := impl.FormatScript(g, steps); got != want {
				t.Errorf("%v is %q", g, got)
			}
			if got := impl.ParseScript(want); !sameScript(got, impl.ScriptResult{Good: true, Geometry: g, Steps: steps}) {
				t.Errorf("%q is told as %v", want, got)
			}
		}
	}
	if got := impl.FormatScript(impl.Geometry{Pages: 16, Frames: 10, LogSectors: 800}, nil); got != "heap 16 10 800\n" {
		t.Errorf("the first line is %q", got)
	}
}

func TestAFaultyGeometryHasNoText(t *testing.T) {
	for _, g := range faultyGeometries() {
		for _, steps := range [][]impl.Step{nil, stepOfEachKind()} {
			if got := impl.FormatScript(g, steps); got != "" {
				t.Errorf("%v has the text %q", g, got)
			}
		}
	}
}

func TestTheMostSteps(t *testing.T) {
	g := smallest(1)
	for _, s := range stepOfEachKind() {
		steps := make([]impl.Step, mostSteps)
		for i := range steps {
			steps[i] = s
		}
		if got := impl.FormatScript(g, steps); got != plainHeapLine(g)+strings.Repeat(plainStepLine(s), mostSteps) {
			t.Error("the most steps of the kind", s.Kind, "are told wrongly")
		}
		if impl.FormatScript(g, append(steps, s)) != "" || impl.FormatScript(g, append(steps, steps...)) != "" {
			t.Error("too many steps of the kind", s.Kind, "have a text")
		}
	}
}

// wrongSteps have no line: each fault of a step, and numbers that are no digits.
func wrongSteps() []impl.Step {
	list := []impl.Step{
		{}, {Kind: -1}, {Kind: 12}, {Kind: math.MinInt64}, {Kind: math.MaxInt64}, {Kind: 1 << 32},
		{Kind: 1, Txn: 1}, {Kind: 1, Id: 1}, {Kind: 1, Count: 1}, {Kind: 1, Data: []byte{0}}, {Kind: 1, Keep: []int64{0}},
		{Kind: 2, Txn: 1, Id: 1}, {Kind: 2, Count: -1}, {Kind: 3, Keep: []int64{1}}, {Kind: 4, Data: []byte{7}}, {Kind: 5, Count: 1},
		{Kind: 6, Txn: 1, Id: 2}, {Kind: 7, Data: []byte{7}}, {Kind: 8, Txn: -1}, {Kind: 9, Keep: []int64{1}}, {Kind: 10, Count: -1}, {Kind: 11, Keep: []int64{0}},
		cuts(-2), cuts(mostIO + 1), cuts(math.MinInt64), cuts(math.MaxInt64),
		crashes(keepAll(mostPending + 1)...), crashes(make([]int64, 3*mostPending)...),
	}
	for _, n := range []int64{2, 3, 9, 10, -1, -48, 256, 257, 1 << 32, 1<<32 + 1, math.MinInt64, math.MinInt64 + 1, math.MaxInt64} {
		list = append(list, crashes(n), crashes(n, 0), crashes(1, n), crashes(0, n, 1))
	}
	return list
}

func TestAWrongStepHasNoText(t *testing.T) {
	g := smallest(2)
	around := append(stepOfEachKind(), stepOfEachKind()...)
	for _, s := range wrongSteps() {
		for _, place := range []int{0, len(around) / 2, len(around)} {
			steps := script(around[:place], s, around[place:])
			if got := impl.FormatScript(g, steps); got != "" {
				t.Errorf("a wrong step of the kind %d at %d has the text %.60q", s.Kind, place, got)
			}
		}
		if impl.FormatScript(g, script(s)) != "" {
			t.Error("a wrong step alone of the kind", s.Kind, "has a text")
		}
	}
}

func TestTheMostData(t *testing.T) {
	g := smallest(1)
	half := textOf(mostStepData/2, 1)
	for name, steps := range map[string][]impl.Step{
		"in one insert":  script(inserts(1, textOf(mostStepData, 9))),
		"in one update":  script(begins(), updates(1, 3, textOf(mostStepData, 0)), restarts()),
		"in two steps":   script(inserts(1, half), updates(1, 1, half)),
		"at both ends":   script(inserts(1, half), stepOfEachKind()[3:], inserts(-1, half)),
		"and empty data": script(inserts(1, half), inserts(1, ""), inserts(1, half), updates(1, 1, "")),
	} {
		text := impl.FormatScript(g, steps)
		if text != plainScript(g, steps) || len(text) < 2*mostStepData {
			t.Error("the most data", name, "have no text or another")
		}
		if got := impl.ParseScript(text); !sameScript(got, impl.ScriptResult{Good: true, Geometry: g, Steps: steps}) {
			t.Error("the most data", name, "are not told back")
		}
		for i := range steps {
			if len(steps[i].Data) == 0 {
				continue
			}
			more := copySteps(steps)
			more[i].Data = append(more[i].Data, 5)
			if impl.FormatScript(g, more) != "" {
				t.Error("a byte more than the most,", name, "has a text")
			}
			if got := impl.ParseScript(plainHeapLine(g) + linesOf(more)); !sameScript(got, impl.ScriptResult{}) {
				t.Error("a byte more than the most,", name, "is a script")
			}
		}
	}
}

func linesOf(steps []impl.Step) string {
	text := ""
	for _, s := range steps {
		text += plainStepLine(s)
	}
	return text
}

// TestAnyScriptAsText holds FormatScript against the document's words done by another hand.
func TestAnyScriptAsText(t *testing.T) {
	r := rand.New(rand.NewSource(1403))
	geometries, faulty, wrong := goodGeometries(), faultyGeometries(), wrongSteps()
	none := 0
	for range 3000 {
		g := geometries[r.Intn(len(geometries))]
		steps := anyTextSteps(r, r.Intn(30))
		switch r.Intn(8) {
		case 0:
			g = faulty[r.Intn(len(faulty))]
		case 1:
			steps = append(steps, wrong[r.Intn(len(wrong))])
		}
		want := plainScript(g, steps)
		if got := impl.FormatScript(g, steps); got != want {
			t.Fatalf("%v with %v is told as %q and not %q", g, steps, got, want)
		}
		got := impl.ParseScript(want)
		if want == "" {
			none++
			g, steps = impl.Geometry{}, nil
		}
		if !sameScript(got, impl.ScriptResult{Good: want != "", Geometry: g, Steps: steps}) {
			t.Fatalf("%q is told back as %v", want, got)
		}
	}
	if none < 200 || none > 2000 {
		t.Error("so many had no text:", none)
	}
}
