package tests

import (
	"math"
	"math/rand"
	"testing"

	"loop.example/s02544/impl"
)

func TestAnswersAsText(t *testing.T) {
	records := []impl.HeapRecord{rec(0, "one"), rec(31, ""), rec(511, "\x00\xff")}
	for _, c := range []struct {
		name   string
		report impl.Report
		want   string
	}{
		{"nothing", impl.Report{}, "down 0\n"},
		{"up without answers", impl.Report{Up: true}, "up 0\n"},
		{"up with room", impl.Report{Up: true, Free: 11931, Room: []int64{3945}}, "up 11931 3945\n"},
		{"up with many rooms", impl.Report{Up: true, Free: -3, Room: []int64{0, -1, 4000, math.MaxInt64, math.MinInt64}}, "up -3 0 -1 4000 9223372036854775807 -9223372036854775808\n"},
		{"down with room", impl.Report{Free: math.MinInt64, Room: []int64{7}}, "down -9223372036854775808 7\n"},
		{"the greatest log", impl.Report{Up: true, Free: math.MaxInt64}, "up 9223372036854775807\n"},
		{"an answer", impl.Report{Answers: []impl.Answer{{}}}, "0 0 0 - 0\ndown 0\n"},
		{"each number", impl.Report{Answers: []impl.Answer{{Code: 1, Txn: 2, Id: 3, Data: []byte{4}, Used: 5}}}, "1 2 3 04 5\ndown 0\n"},
		{"far numbers", impl.Report{Answers: []impl.Answer{{Code: -1, Txn: math.MinInt64, Id: math.MaxInt64, Used: -10}}}, "-1 -9223372036854775808 9223372036854775807 - -10\ndown 0\n"},
		{"data", impl.Report{Answers: []impl.Answer{{Data: []byte("one")}, {Data: []byte{}}}}, "0 0 0 6f6e65 0\n0 0 0 - 0\ndown 0\n"},
		{"one record", impl.Report{Answers: []impl.Answer{{Used: 24, Records: records[:1]}}, Up: true}, "0 0 0 - 24 0 6f6e65\nup 0\n"},
		{"many records", impl.Report{Answers: []impl.Answer{{Records: records}, {Code: 11}}, Up: true}, "0 0 0 - 0 0 6f6e65 31 - 511 00ff\n11 0 0 - 0\nup 0\n"},
		{"data and records", impl.Report{Answers: []impl.Answer{{Data: []byte{1}, Records: []impl.HeapRecord{rec(-5, "a"), rec(math.MaxInt64, "")}}}}, "0 0 0 01 0 -5 61 9223372036854775807 -\ndown 0\n"},
		{"what is not told", impl.Report{Disk: impl.Format(smallest(1)), Locks: []impl.Lock{{Id: 1}}, Holds: []impl.Hold{{Id: 2}}}, "down 0\n"},
	} {
		if got := impl.FormatAnswers(c.report); got != c.want {
			t.Errorf("%s: %q and not %q", c.name, got, c.want)
		}
	}
}

func TestAFaultAsText(t *testing.T) {
	full := impl.Report{Answers: []impl.Answer{{Code: 1, Data: []byte("x")}}, Up: true, Free: 5, Room: []int64{1, 2}}
	for fault, want := range map[int64]string{
		1: "fault 1\n", 2: "fault 2\n", 3: "fault 3\n", 4: "fault 4\n", 10: "fault 10\n", -1: "fault -1\n",
		math.MaxInt64: "fault 9223372036854775807\n", math.MinInt64: "fault -9223372036854775808\n",
	} {
		full.Fault = fault
		for _, r := range []impl.Report{{Fault: fault}, full} {
			if got := impl.FormatAnswers(r); got != want {
				t.Errorf("the fault %d is %q", fault, got)
			}
		}
	}
}

func anyReport(r *rand.Rand) impl.Report {
	far := farNumbers()
	number := func() int64 { return far[r.Intn(len(far))] }
	report := impl.Report{Up: r.Intn(2) == 0, Free: number()}
	if r.Intn(9) == 0 {
		report.Fault = number()
	}
	for range r.Intn(4) {
		a := impl.Answer{Code: number(), Txn: number(), Id: number(), Used: number(), Data: someBytes(r, r.Intn(4))}
		for range r.Intn(4) {
			a.Records = append(a.Records, impl.HeapRecord{Id: number(), Data: someBytes(r, r.Intn(4))})
		}
		report.Answers = append(report.Answers, a)
	}
	for range r.Intn(4) {
		report.Room = append(report.Room, number())
	}
	return report
}

func TestAnyAnswersAsText(t *testing.T) {
	r := rand.New(rand.NewSource(1405))
	for range 5000 {
		report := anyReport(r)
		if got, want := impl.FormatAnswers(report), plainAnswers(report); got != want {
			t.Fatalf("%v is told as %q and not %q", report, got, want)
		}
	}
}
