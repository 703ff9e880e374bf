package tests

import (
	"bytes"
	"math/rand"
	"sync"
	"testing"

	"loop.example/s02544/impl"
)

// pageAnswer is the answer of any call of chapter 3.
type pageAnswer struct {
	number int64
	yes    bool
	list   []byte
}

func (a pageAnswer) same(b pageAnswer) bool {
	return a.number == b.number && a.yes == b.yes && bytes.Equal(a.list, b.list)
}

func (a pageAnswer) copy() pageAnswer {
	a.list = append([]byte(nil), a.list...)
	return a
}

// pageCalls take a page and the data of a record.
func pageCalls() map[string]func(page, data []byte) pageAnswer {
	calls := map[string]func(page, data []byte) pageAnswer{
		"PageFault":   func(page, _ []byte) pageAnswer { return pageAnswer{number: impl.PageFault(page, 3)} },
		"PageSeal":    func(page, _ []byte) pageAnswer { return pageAnswer{list: impl.PageSeal(page)} },
		"PageWhole":   func(page, _ []byte) pageAnswer { return pageAnswer{yes: impl.PageWhole(page)} },
		"PageLSN":     func(page, _ []byte) pageAnswer { return pageAnswer{number: impl.PageLSN(page)} },
		"PageUsed":    func(page, _ []byte) pageAnswer { return pageAnswer{number: impl.PageUsed(page)} },
		"PageCompact": func(page, _ []byte) pageAnswer { return pageAnswer{list: impl.PageCompact(page)} },
		"PageNew":     func(_, data []byte) pageAnswer { return pageAnswer{list: impl.PageNew(int64(len(data)))} },
	}
	slots := map[string]int64{"-1": -1, "0": 0, "4": 4, "31": 31, "32": 32}
	for name, slot := range slots {
		calls["PageGet "+name] = func(page, _ []byte) pageAnswer {
			r := impl.PageGet(page, slot)
			return pageAnswer{yes: r.Used, list: r.Data}
		}
		calls["PageSet "+name] = func(page, data []byte) pageAnswer {
			r := impl.PageSet(page, slot, impl.PageRecord{Used: true, Data: data}, 6)
			return pageAnswer{number: r.Code, list: r.Page}
		}
		calls["PageSet, given up "+name] = func(page, data []byte) pageAnswer {
			r := impl.PageSet(page, slot, impl.PageRecord{Data: data}, 6)
			return pageAnswer{number: r.Code, list: r.Page}
		}
	}
	return calls
}

func memoryPages() []namedPage {
	full := laidPage(3, 5, 148, slotEntry{0, 148, 948}, slotEntry{4, 1096, 1000}, slotEntry{2, 2096, 1000}, slotEntry{31, 3096, 1000})
	return append(faultyPages(),
		namedPage{"new", impl.PageNew(3)},
		namedPage{"room at the front", laidPage(3, 5, 3000, slotEntry{0, 3000, 10}, slotEntry{4, 3500, 0}, slotEntry{31, 4000, 96})},
		namedPage{"no room at the front", laidPage(3, 5, 148, slotEntry{0, 148, 10}, slotEntry{31, 4000, 96})},
		namedPage{"full", full},
		namedPage{"sealed", impl.PageSeal(full)})
}

func memoryData() [][]byte {
	return [][]byte{nil, {}, []byte("abc"), bytes.Repeat([]byte{5}, 1000), bytes.Repeat([]byte{5}, 1001)}
}

func TestPageCallsChangeNoArgument(t *testing.T) {
	for _, p := range memoryPages() {
		for _, d := range memoryData() {
			for name, call := range pageCalls() {
				page, data := roomy(p.page), roomy(d)
				pageBefore := append([]byte(nil), page[:cap(page)]...)
				dataBefore := append([]byte(nil), data[:cap(data)]...)
				first := call(page, data)
				kept := first.copy()
				scribble(first.list, 99)
				if !bytes.Equal(page[:cap(page)], pageBefore) || !bytes.Equal(data[:cap(data)], dataBefore) {
					t.Fatal(name, "of", p.name, "changes an argument or answers its memory")
				}
				if !call(page, data).same(kept) || !call(p.page, d).same(kept) {
					t.Fatal(name, "of", p.name, "answers something else to the same arguments")
				}
			}
		}
	}
}

func TestPageAnswersOutliveTheArguments(t *testing.T) {
	for _, p := range memoryPages() {
		for _, d := range memoryData() {
			for name, call := range pageCalls() {
				page, data := roomy(p.page), roomy(d)
				answer := call(page, data)
				kept := answer.copy()
				scribble(page, 99)
				scribble(data, 98)
				scribble(call(p.page, d).list, 97)
				if !answer.same(kept) {
					t.Fatal(name, "of", p.name, "keeps memory of an argument or answers the same memory twice")
				}
			}
		}
	}
}

// TestPageCallsHangOnThePageAlone makes other calls between two that are the same.
func TestPageCallsHangOnThePageAlone(t *testing.T) {
	page, data := laidPage(3, 5, 3000, slotEntry{0, 3000, 10}, slotEntry{31, 4000, 96}), []byte("abc")
	for name, call := range pageCalls() {
		want := call(page, data)
		for other, meanwhile := range pageCalls() {
			for _, p := range faultyPages() {
				meanwhile(p.page, nil)
			}
			meanwhile(impl.PageNew(7), []byte("defg"))
			if !call(page, data).same(want) {
				t.Fatal(name, "answers something else behind", other)
			}
		}
	}
}

func TestPagesAtTheSameTime(t *testing.T) {
	page := laidPage(3, 5, 148, slotEntry{0, 148, 10}, slotEntry{31, 4000, 96})
	data := bytes.Repeat([]byte{5}, 700)
	calls := pageCalls()
	want := map[string]pageAnswer{}
	for name, call := range calls {
		want[name] = call(page, data)
	}
	var all sync.WaitGroup
	var wrong [16]int64
	for i := range wrong {
		all.Go(func() {
			for name, call := range calls {
				if !call(page, data).same(want[name]) {
					wrong[i]++
				}
			}
		})
	}
	all.Wait()
	if wrong != [16]int64{} {
		t.Error("calls that are made at the same time")
	}
}

func TestAnyBytesAreAnswered(t *testing.T) {
	r := rand.New(rand.NewSource(37))
	calls := pageCalls()
	for range 300 {
		page := someBytes(r, 4090+r.Intn(12))
		if r.Intn(2) == 0 {
			page = someBytes(r, 4096)
		}
		for _, call := range calls {
			call(page, someBytes(r, r.Intn(1100)))
		}
		if len(page) == 4096 && impl.PageFault(page, ownOf(page)) != plainFault(page, ownOf(page)) {
			t.Fatalf("the fault of %x", page[:148])
		}
	}
}
