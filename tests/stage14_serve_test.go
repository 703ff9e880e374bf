package tests

import (
	"math/rand"
	"runtime"
	"strings"
	"sync"
	"testing"
	"time"

	"loop.example/s02544/impl"
)

// chapterScript and chapterAnswers are the example of chapter 14.
const chapterScript = "heap 1 3 33\nrestart\nbegin\ninsert 1 6f6e65\nbegin\ninsert 2 74776f\nread 1 0\nupdate 1 1 78\ncommit 1\nupdate 2 1 7477696365\ncrash -\nrestart\nread 1 0\n"
const chapterAnswers = "0 0 0 - 6\n0 1 0 - 0\n0 0 0 - 0\n0 2 0 - 0\n0 0 1 - 0\n0 0 0 6f6e65 0\n5 0 0 - 0\n0 0 0 - 2\n0 0 0 - 0\n0 0 0 - 0\n0 0 0 - 24 0 6f6e65\n2 0 0 - 0\nup 11931 3945\n"

func TestTheServerOnTheExample(t *testing.T) {
	if got := impl.Serve(chapterScript); got != chapterAnswers {
		t.Error("the example is answered", got)
	}
}

func TestTheServerOnSmallScripts(t *testing.T) {
	for text, want := range map[string]string{
		"heap 1 3 33\n":                                         "down 0\n",
		"heap 16 16 800\n":                                      "down 0\n",
		"heap 1 3 33\nbegin\n":                                  "1 0 0 - 0\ndown 0\n",
		"heap 1 3 33\ncrash 01\n":                               "0 0 0 - 0\ndown 0\n",
		"heap 1 3 33\ncut 0\nrestart\n":                         "0 0 0 - 0\n1 0 0 - 0\ndown 0\n",
		"heap 1 3 33\ncut 5\nrestart\n":                         "0 0 0 - 0\n1 0 0 - 5\ndown 0\n",
		"heap 1 3 33\nrestart\nrestart\ncrash -\n":              "0 0 0 - 6\n11 0 0 - 0\n0 0 0 - 0\ndown 0\n",
		"heap 1 3 33\ncut -1\nread -9 -9223372036854775808\n":   "0 0 0 - 0\n1 0 0 - 0\ndown 0\n",
		"heap 1 3 33\nrestart\nread 9223372036854775807 0\n":    "0 0 0 - 6\n2 0 0 - 0\n" + plainState(t, "heap 1 3 33\nrestart\n"),
		"heap 2 3 42\nrestart\nbegin\ninsert 1 -\nread 1 0\n":   "0 0 0 - 6\n0 1 0 - 0\n0 0 0 - 0\n0 0 0 - 0\n" + plainState(t, "heap 2 3 42\nrestart\nbegin\ninsert 1 -\n"),
		"heap 2 3 42\nrestart\nbegin\ninsert 1 00\nread 1 0\n":  "0 0 0 - 6\n0 1 0 - 0\n0 0 0 - 0\n0 0 0 00 0\n" + plainState(t, "heap 2 3 42\nrestart\nbegin\ninsert 1 00\n"),
		"heap 1 3 33\nrestart\nbegin\nread 1 -1\nread 1 32\n":   "0 0 0 - 6\n0 1 0 - 0\n4 0 0 - 0\n4 0 0 - 0\n" + plainState(t, "heap 1 3 33\nrestart\nbegin\n"),
		"heap 1 3 33\nrestart\nbegin\nabort 1\nbegin\nbegin\n":  "0 0 0 - 6\n0 1 0 - 0\n0 0 0 - 0\n0 2 0 - 0\n0 3 0 - 0\n" + plainState(t, "heap 1 3 33\nrestart\n"),
		"heap 1 3 33\nrestart\nbegin\ndelete 1 0\ncheckpoint\n": "0 0 0 - 6\n0 1 0 - 0\n6 0 0 - 0\n0 0 0 - 4\n" + plainState(t, "heap 1 3 33\nrestart\ncheckpoint\n"),
	} {
		if got := impl.Serve(text); got != want {
			t.Errorf("%q is answered %q and not %q", text, got, want)
		}
	}
}

// plainState is the last line of what a script has as answers, by the second engine.
func plainState(t *testing.T, text string) string {
	all := plainServe(text)
	if all == "bad\n" {
		t.Fatalf("%q is no script", text)
	}
	lines := strings.SplitAfter(all, "\n")
	return lines[len(lines)-2]
}

// plainServe is Serve, by the second judge, the second engine and the second text.
func plainServe(text string) string {
	p := plainParse(text)
	if !p.Good {
		return "bad\n"
	}
	return plainAnswers(plainRun(p.Geometry, impl.Format(p.Geometry), p.Steps))
}

func TestTheServerOnManyScripts(t *testing.T) {
	r := rand.New(rand.NewSource(1406))
	up := 0
	for range 100 {
		g := anyGeometry(r)
		steps := toldKeep(anyScript(r, g, 20+r.Intn(100)).steps)
		text := impl.FormatScript(g, steps)
		if text == "" || len(text) > mostScript {
			continue
		}
		got := impl.Serve(text)
		if got != plainServe(text) {
			t.Fatalf("%q is answered %q", text, got)
		}
		if got != impl.FormatAnswers(impl.RunEngine(g, impl.Format(g), steps)) {
			t.Fatalf("%q is not answered as its steps are", text)
		}
		if strings.Contains(got, "\nup ") {
			up++
		}
	}
	if up < 60 {
		t.Error("so few were up in the end:", up)
	}
}

// TestTheServerOnChangedScripts: it is bad exactly for what is no script.
func TestTheServerOnChangedScripts(t *testing.T) {
	r := rand.New(rand.NewSource(1407))
	bad := 0
	const all = 500
	for range all {
		g := smallest(1 + r.Int63n(2))
		text := changedText(r, impl.FormatScript(g, toldKeep(anyScript(r, g, 12).steps)))
		got := impl.Serve(text)
		if got != plainServe(text) {
			t.Fatalf("%q is answered %q", text, got)
		}
		if got == "bad\n" {
			bad++
		}
	}
	if bad < all/10 || bad > all-all/10 {
		t.Error("so many were bad:", bad)
	}
}

// badTexts are none by their first line, by one between, by the last one, and by their length.
func badTexts() []string {
	long := strings.Repeat("begin\n", mostSteps)
	half := strings.Repeat("restart\n", mostSteps/2)
	return []string{
		"", "\n", "x\n" + long, long, "heap 1 3 32\n" + long, "heap 1 3 33\nx\n" + long, "heap 1 3 33\n" + half + "x\n" + half, "heap 1 3 33\n" + half + "\n" + half,
		"heap 1 3 33\n" + long + "begin\n", "heap 1 3 33\n" + half + "x\n", "heap 1 3 33\n" + half + "x", "heap 1 3 33\n" + half + "begin", "heap 1 3 33\n" + half + "\n", "heap 1 3 33",
		"heap 1 3 33\n" + textOf(mostScript-20, '\n'), textOf(mostScript, '\n'), textOf(mostScript, 'x'), textOf(mostScript+1, 'x'), "heap 1 3 33\n" + strings.Repeat(long, 100),
		"heap 1 3 33\ninsert 1 " + textOf(2*mostStepData+2, '0') + "\n" + long[:600],
	}
}

func TestTheServerOnWhatIsNoScript(t *testing.T) {
	for _, text := range badTexts() {
		if got := impl.Serve(text); got != "bad\n" {
			t.Errorf("%.60q is answered %.60q", text, got)
		}
	}
	for _, line := range strings.SplitAfter(sampleScript, "\n") {
		if line == "" {
			continue
		}
		for why, changed := range changedLines(strings.TrimSuffix(line, "\n")) {
			if got := impl.Serve(strings.Replace(sampleScript, line, changed, 1)); got != "bad\n" {
				t.Errorf("%s: %q is answered %q", why, changed, got)
			}
		}
	}
}

// leftBehind waits a while for goroutines that are just ending, and tells how many more there are than there were.
func leftBehind(before int) int {
	for range 400 {
		if runtime.NumGoroutine() <= before {
			return 0
		}
		time.Sleep(5 * time.Millisecond)
	}
	return runtime.NumGoroutine() - before
}

func TestNoGoroutineIsLeftBehind(t *testing.T) {
	texts := append(badTexts(), chapterScript, sampleScript, "heap 1 3 33\n")
	before := runtime.NumGoroutine()
	for _, text := range texts {
		for range 20 {
			impl.ParseScript(text)
		}
		impl.Serve(text)
		if n := leftBehind(before); n != 0 {
			t.Fatalf("%.60q leaves %d goroutines", text, n)
		}
	}
}

func TestTheServerFromManyGoroutines(t *testing.T) {
	r := rand.New(rand.NewSource(1408))
	texts := append(badTexts(), chapterScript, sampleScript)
	for range 10 {
		g := anyGeometry(r)
		texts = append(texts, impl.FormatScript(g, toldKeep(anyScript(r, g, 60).steps)))
	}
	var want []string
	for _, text := range texts {
		want = append(want, plainServe(text))
	}
	before := runtime.NumGoroutine()
	var all sync.WaitGroup
	var wrong [8]int
	for i := range wrong {
		all.Go(func() {
			for k := range texts {
				at := (k*(2*i+1) + i) % len(texts)
				if impl.Serve(texts[at]) != want[at] {
					wrong[i]++
				}
			}
		})
	}
	all.Wait()
	if wrong != [8]int{} {
		t.Error("at the same time there are other answers:", wrong)
	}
	if n := leftBehind(before); n != 0 {
		t.Error("so many goroutines are left:", n)
	}
}
