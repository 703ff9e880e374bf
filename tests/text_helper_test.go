package tests

import (
	"fmt"
	"math"
	"math/big"
	"math/rand"
	"regexp"
	"strings"

	"loop.example/s02544/impl"
)

const mostScript = 400000

// plainHex has one form for each list of bytes.
func plainHex(b []byte) string {
	if len(b) == 0 {
		return "-"
	}
	return fmt.Sprintf("%x", b)
}

func plainKeep(keep []int64) string {
	if len(keep) == 0 {
		return "-"
	}
	return strings.Trim(strings.ReplaceAll(fmt.Sprint(keep), " ", ""), "[]")
}

func plainStepLine(s impl.Step) string {
	switch s.Kind {
	case 1:
		return "begin\n"
	case 2:
		return fmt.Sprintf("insert %d %s\n", s.Txn, plainHex(s.Data))
	case 3:
		return fmt.Sprintf("update %d %d %s\n", s.Txn, s.Id, plainHex(s.Data))
	case 4:
		return fmt.Sprintf("delete %d %d\n", s.Txn, s.Id)
	case 5:
		return fmt.Sprintf("read %d %d\n", s.Txn, s.Id)
	case 6:
		return fmt.Sprintf("commit %d\n", s.Txn)
	case 7:
		return fmt.Sprintf("abort %d\n", s.Txn)
	case 8:
		return "checkpoint\n"
	case 9:
		return "restart\n"
	case 10:
		return fmt.Sprintf("crash %s\n", plainKeep(s.Keep))
	}
	return fmt.Sprintf("cut %d\n", s.Count)
}

func plainHeapLine(g impl.Geometry) string {
	return fmt.Sprintf("heap %d %d %d\n", g.Pages, g.Frames, g.LogSectors)
}

// plainScript is FormatScript, word by word.
func plainScript(g impl.Geometry, steps []impl.Step) string {
	if plainGeometryFault(g) != 0 || len(steps) > mostSteps {
		return ""
	}
	text, data := plainHeapLine(g), 0
	for _, s := range steps {
		if plainStepFault(s) != 0 {
			return ""
		}
		for _, n := range s.Keep {
			if n < 0 || n > 1 {
				return ""
			}
		}
		data += len(s.Data)
		text += plainStepLine(s)
	}
	if data > mostStepData {
		return ""
	}
	return text
}

// forms are the lines of a script as patterns, by kind; that of 0 is the first line.
var forms = func() [12]*regexp.Regexp {
	kinds := strings.NewReplacer("N", `(0|-?[1-9][0-9]*)`, "D", `(-|(?:[0-9a-f][0-9a-f])+)`, "K", `(-|[01]+)`)
	var list [12]*regexp.Regexp
	for i, form := range []string{"heap N N N", "begin", "insert N D", "update N N D", "delete N N", "read N N", "commit N", "abort N", "checkpoint", "restart", "crash K", "cut N"} {
		list[i] = regexp.MustCompile(`^` + kinds.Replace(form) + `$`)
	}
	return list
}()

// plainNumber is of a word that has a number's form; false: it has more than 64 bits.
func plainNumber(word string) (int64, bool) {
	n, _ := new(big.Int).SetString(word, 10)
	return n.Int64(), n.IsInt64()
}

func plainBytes(word string) []byte {
	var b []byte
	for i := 0; word != "-" && i < len(word); i += 2 {
		var x byte
		fmt.Sscanf(word[i:i+2], "%02x", &x)
		b = append(b, x)
	}
	return b
}

// plainStepOf reads a line by the patterns.
func plainStepOf(line string) (impl.Step, bool) {
	for kind := 1; kind <= 11; kind++ {
		found := forms[kind].FindStringSubmatch(line)
		if found == nil {
			continue
		}
		s := impl.Step{Kind: int64(kind)}
		words, good := found[1:], true
		number := func() (n int64) {
			var fits bool
			n, fits = plainNumber(words[0])
			words, good = words[1:], good && fits
			return n
		}
		if kind >= 2 && kind <= 7 {
			s.Txn = number()
		}
		if kind >= 3 && kind <= 5 {
			s.Id = number()
		}
		switch kind {
		case 2, 3:
			s.Data = plainBytes(words[0])
		case 10:
			for _, digit := range strings.Trim(words[0], "-") {
				s.Keep = append(s.Keep, int64(digit-'0'))
			}
		case 11:
			s.Count = number()
		}
		return s, good && plainStepFault(s) == 0
	}
	return impl.Step{}, false
}

// plainParse is a second judge of what is a script: it reads lines by patterns.
func plainParse(text string) impl.ScriptResult {
	none := impl.ScriptResult{}
	if len(text) > mostScript || !strings.HasSuffix(text, "\n") {
		return none
	}
	lines := strings.Split(text[:len(text)-1], "\n")
	head := forms[0].FindStringSubmatch(lines[0])
	if head == nil || len(lines) > 1+mostSteps {
		return none
	}
	var numbers [3]int64
	for i, word := range head[1:] {
		fits := false
		if numbers[i], fits = plainNumber(word); !fits {
			return none
		}
	}
	r := impl.ScriptResult{Good: true, Geometry: impl.Geometry{Pages: numbers[0], Frames: numbers[1], LogSectors: numbers[2]}}
	data := 0
	for _, line := range lines[1:] {
		s, good := plainStepOf(line)
		if !good {
			return none
		}
		r.Steps = append(r.Steps, s)
		data += len(s.Data)
	}
	if plainGeometryFault(r.Geometry) != 0 || data > mostStepData {
		return none
	}
	return r
}

// plainAnswers is FormatAnswers, word by word.
func plainAnswers(r impl.Report) string {
	if r.Fault != 0 {
		return fmt.Sprintf("fault %d\n", r.Fault)
	}
	text := ""
	for _, a := range r.Answers {
		text += fmt.Sprintf("%d %d %d %s %d", a.Code, a.Txn, a.Id, plainHex(a.Data), a.Used)
		for _, x := range a.Records {
			text += fmt.Sprintf(" %d %s", x.Id, plainHex(x.Data))
		}
		text += "\n"
	}
	state := "down"
	if r.Up {
		state = "up"
	}
	text += fmt.Sprintf("%s %d", state, r.Free)
	for _, n := range r.Room {
		text += fmt.Sprintf(" %d", n)
	}
	return text + "\n"
}

func sameScript(a, b impl.ScriptResult) bool {
	return a.Good == b.Good && a.Geometry == b.Geometry && sameSteps(a.Steps, b.Steps)
}

// farNumbers are a zero, the least and the greatest number, and some between.
func farNumbers() []int64 {
	return []int64{0, 1, -1, 9, 10, -10, 100, 1 << 31, 1 << 53, math.MaxInt64, math.MaxInt64 - 1, math.MinInt64, math.MinInt64 + 1}
}

// toldKeep has only numbers that a text can tell.
func toldKeep(steps []impl.Step) []impl.Step {
	list := copySteps(steps)
	for _, s := range list {
		for i := range s.Keep {
			s.Keep[i] &= 1
		}
	}
	return list
}

// anyTextStep is any step that has a line.
func anyTextStep(r *rand.Rand) impl.Step {
	far := farNumbers()
	number := func() int64 {
		if r.Intn(2) == 0 {
			return far[r.Intn(len(far))]
		}
		return r.Int63n(40) - 5
	}
	s := impl.Step{Kind: 1 + r.Int63n(11)}
	if s.Kind >= 2 && s.Kind <= 7 {
		s.Txn = number()
	}
	if s.Kind >= 3 && s.Kind <= 5 {
		s.Id = number()
	}
	switch s.Kind {
	case 2, 3:
		s.Data = someBytes(r, r.Intn(5)*r.Intn(30))
	case 10:
		for range r.Intn(4) * r.Intn(20) {
			s.Keep = append(s.Keep, r.Int63n(2))
		}
	case 11:
		s.Count = []int64{-1, 0, 5, mostIO, r.Int63n(mostIO)}[r.Intn(5)]
	}
	return s
}

func anyTextSteps(r *rand.Rand, n int) []impl.Step {
	var list []impl.Step
	for range n {
		list = append(list, anyTextStep(r))
	}
	return list
}

// fullScript has so many bytes as text: a text that is nearly all data and Keep.
func fullScript(size int) (impl.Geometry, []impl.Step) {
	g := smallest(1)
	steps := script(inserts(1, textOf(mostStepData, 7)))
	left := size - len("heap 1 3 33\n") - len("insert 1 \n") - 2*mostStepData
	for empty := len("crash \n"); left > 0; {
		n := min(left-empty, mostPending)
		if rest := left - empty - n; rest > 0 && rest <= empty {
			n -= 2 * empty
		}
		steps = append(steps, crashes(keepAll(n)...))
		left -= empty + n
	}
	return g, steps
}
