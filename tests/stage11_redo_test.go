package tests

import (
	"bytes"
	"math"
	"math/rand"
	"testing"

	"loop.example/s02544/impl"
)

// holdRedo also holds the answer against the plain writing of the chapter.
func holdRedo(t *testing.T, name string, page []byte, number int64, frames []impl.LogFrame, from int64, want impl.PageResult) {
	t.Helper()
	if got := impl.RedoPage(page, number, frames, from); !samePage(got, want) {
		t.Error(name, "RedoPage has the code", got.Code, "and another page than it should, or none")
	}
	if !samePage(plainRedo(page, number, frames, from), want) {
		t.Error(name, "the plain writing is something else")
	}
}

func TestLastImage(t *testing.T) {
	first, second := pageOf(3, map[int]string{0: "first"}), pageOf(3, map[int]string{0: "second"})
	other := pageOf(4, map[int]string{0: "other"})
	broken := impl.LogRecord{Kind: 8, Page: 3, Image: []byte("no page")}
	cases := []struct {
		name   string
		page   int64
		frames []impl.LogFrame
		want   impl.PageResult
	}{
		{"no frames", 3, nil, impl.PageResult{Code: 1}},
		{"another page's", 3, []impl.LogFrame{at(600, imageOf(other))}, impl.PageResult{Code: 1}},
		{"a change of the page", 3, []impl.LogFrame{at(600, insertBy(1, 0, 3, 0))}, impl.PageResult{Code: 1}},
		{"a change with an image", 3, []impl.LogFrame{at(600, impl.LogRecord{Kind: 1, Page: 3, Image: first})}, impl.PageResult{Code: 1}},
		{"one", 3, []impl.LogFrame{at(600, imageOf(first))}, impl.PageResult{Page: first}},
		{"one ahead of others", 3, []impl.LogFrame{at(600, imageOf(first)), at(5000, insertBy(1, 0, 3, 0)), at(6000, beginning())}, impl.PageResult{Page: first}},
		{"two", 3, []impl.LogFrame{at(600, imageOf(first)), at(5000, imageOf(second))}, impl.PageResult{Page: second}},
		{"two, with another page's between", 3, []impl.LogFrame{at(600, imageOf(second)), at(5000, imageOf(other)), at(10000, imageOf(first))}, impl.PageResult{Page: first}},
		{"two, with another page's behind", 3, []impl.LogFrame{at(600, imageOf(first)), at(5000, imageOf(second)), at(10000, imageOf(other))}, impl.PageResult{Page: second}},
		{"two that fall", 3, []impl.LogFrame{at(5000, imageOf(first)), at(600, imageOf(second))}, impl.PageResult{Page: second}},
		{"two at one place", 3, []impl.LogFrame{at(5000, imageOf(second)), at(5000, imageOf(first))}, impl.PageResult{Page: first}},
		{"places that are none", 3, []impl.LogFrame{at(math.MinInt64, imageOf(second)), at(-1, imageOf(first))}, impl.PageResult{Page: first}},
		{"bytes of no page", 3, []impl.LogFrame{at(600, imageOf(first)), at(5000, broken)}, impl.PageResult{Page: []byte("no page")}},
		{"an image of no bytes", 3, []impl.LogFrame{at(600, imageOf(first)), at(5000, impl.LogRecord{Kind: 8, Page: 3})}, impl.PageResult{}},
		{"an image of another page's bytes", 3, []impl.LogFrame{at(600, impl.LogRecord{Kind: 8, Page: 3, Image: other})}, impl.PageResult{Page: other}},
		{"faulty records around it", 3, []impl.LogFrame{at(5, impl.LogRecord{}), at(600, imageOf(first)), at(5, impl.LogRecord{Kind: 77, Page: 3})}, impl.PageResult{Page: first}},
		{"an image with other fields", 3, []impl.LogFrame{at(600, impl.LogRecord{Kind: 8, Page: 3, Txn: 5, Image: first})}, impl.PageResult{Page: first}},
		{"the page ahead of the first", -1, []impl.LogFrame{at(600, imageOf(first))}, impl.PageResult{Code: 1}},
		{"the page behind the last", 16, []impl.LogFrame{at(600, imageOf(first))}, impl.PageResult{Code: 1}},
		{"the greatest number", math.MaxInt64, []impl.LogFrame{at(600, imageOf(first))}, impl.PageResult{Code: 1}},
		{"the least number", math.MinInt64, []impl.LogFrame{at(600, imageOf(first))}, impl.PageResult{Code: 1}},
	}
	for _, c := range cases {
		if got := impl.LastImage(c.frames, c.page); !samePage(got, c.want) || !samePage(plainLastImage(c.frames, c.page), c.want) {
			t.Error(c.name, "LastImage has the code", got.Code)
		}
	}
}

func TestRedoOfFaultyPages(t *testing.T) {
	frames := []impl.LogFrame{at(600, insertBy(1, 0, 3, 0))}
	for _, p := range faultyPages() {
		holdRedo(t, p.name, p.page, 3, frames, 0, impl.PageResult{Code: 1})
		holdRedo(t, p.name+" without frames", p.page, 3, nil, 0, impl.PageResult{Code: 1})
	}
	good := pageOf(3, map[int]string{0: "kept"})
	for _, number := range []int64{math.MinInt64, -1, 0, 2, 4, 16, 1 << 32, math.MaxInt64} {
		holdRedo(t, "another page's number", good, number, frames, 0, impl.PageResult{Code: 1})
	}
	tooLong := []impl.LogFrame{at(601, updateBy(1, 0, 3, 0, longRecord(1001, 1)))}
	holdRedo(t, "both codes", good[:100], 3, tooLong, 0, impl.PageResult{Code: 1})
}

// TestRedoWithoutFrames has pages that are not sealed, and ones with numbers that no heap has.
func TestRedoWithoutFrames(t *testing.T) {
	r := rand.New(rand.NewSource(113))
	for range 50 {
		page := anyPage(r)
		number := ownOf(page)
		holdRedo(t, "no frames", page, number, nil, 0, impl.PageResult{Page: page})
		others := []impl.LogFrame{at(2000, insertBy(1, 0, (number+1)%16, 0)), at(2100, commitBy(1, 2000)), at(2200, imageOf(page)), at(2300, beginning()),
			at(2400, impl.LogRecord{Kind: 7, Page: number, After: recordOf("x")}), at(2500, impl.LogRecord{Kind: 0, Page: number, After: recordOf("x")})}
		holdRedo(t, "no frame of the page", page, number, others, 0, impl.PageResult{Page: page})
	}
	far := laidPage(70000, 5, pageEnd)
	change := at(600, insertBy(1, 0, 70000, 4))
	holdRedo(t, "a number that no heap has", far, 70000, []impl.LogFrame{change}, 0, impl.PageResult{Page: plainSet(far, 4, recordOf("new"), 600)})
}

func TestRedoFromAPlaceOn(t *testing.T) {
	page := plainSet(plainNewPage(2), 9, recordOf("kept"), 700)
	frames := []impl.LogFrame{
		at(699, updateBy(1, 0, 2, 1, recordOf("below"))),
		at(700, updateBy(1, 699, 2, 2, recordOf("at"))),
		at(701, updateBy(1, 700, 2, 3, recordOf("above"))),
		at(800, undoBy(1, 701, 0, 2, 4, recordOf("undone"))),
		at(900, updateBy(1, 800, 2, 3, recordOf("again"))),
	}
	three := plainSet(page, 3, recordOf("above"), 701)
	four := plainSet(three, 4, recordOf("undone"), 800)
	all := impl.PageResult{Page: plainSet(four, 3, recordOf("again"), 900)}
	for _, from := range []int64{math.MinInt64, -1, 0, 699, 700, 701} {
		holdRedo(t, "all above the page's LSN", page, 2, frames, from, all)
	}
	half := plainSet(plainSet(page, 4, recordOf("undone"), 800), 3, recordOf("again"), 900)
	for _, from := range []int64{702, 800} {
		holdRedo(t, "from the Undo on", page, 2, frames, from, impl.PageResult{Page: half})
	}
	for _, from := range []int64{801, 900} {
		holdRedo(t, "from the last on", page, 2, frames, from, impl.PageResult{Page: plainSet(page, 3, recordOf("again"), 900)})
	}
	for _, from := range []int64{901, greatestLSN, math.MaxInt64} {
		holdRedo(t, "from behind the last on", page, 2, frames, from, impl.PageResult{Page: page})
	}
	for k, want := range map[int][]byte{2: page, 3: three, 4: four} {
		holdRedo(t, "the first frames alone", page, 2, frames[:k], 0, impl.PageResult{Page: want})
	}
}

func TestRedoOfOneSlot(t *testing.T) {
	page := plainNewPage(0)
	set := at(600, updateBy(1, 0, 0, 5, recordOf("one")))
	again := at(700, updateBy(1, 600, 0, 5, longRecord(1000, 7)))
	empty := at(800, updateBy(1, 700, 0, 5, recordOf("")))
	gone := at(900, updateBy(1, 800, 0, 5, impl.PageRecord{}))
	back := at(1000, undoBy(1, 900, 800, 0, 5, recordOf("")))
	taken := at(1100, undoBy(1, 1000, 0, 0, 5, impl.PageRecord{}))
	want := page
	frames := []impl.LogFrame{set, again, empty, gone, back, taken}
	for i, f := range frames {
		want = plainSet(want, 5, f.Record.After, f.LSN)
		holdRedo(t, "a slot set and given up", page, 0, frames[:i+1], 600, impl.PageResult{Page: want})
		got := impl.RedoPage(page, 0, frames[:i+1], 0).Page
		if !sameRecord(impl.PageGet(got, 5), f.Record.After) || impl.PageLSN(got) != f.LSN {
			t.Error("the slot behind the frame", i, "is", impl.PageGet(got, 5))
		}
	}
}

// TestRedoIsRefused has frames whose records are faulty too: they are refused by PageSet alone.
func TestRedoIsRefused(t *testing.T) {
	page := plainNewPage(1)
	for slot := range 3 {
		page = plainSet(page, slot, longRecord(1000, 5), 600)
	}
	page = plainSet(page, 3, longRecord(900, 6), 600)
	good := at(700, updateBy(1, 0, 1, 4, longRecord(48, 1)))
	full := plainSet(page, 4, longRecord(48, 1), 700)
	holdRedo(t, "to the last byte", page, 1, []impl.LogFrame{good}, 0, impl.PageResult{Page: full})
	cases := map[string]impl.LogFrame{
		"a byte too many for the page":    at(800, updateBy(1, 0, 1, 5, recordOf("x"))),
		"a byte too many in an Undo":      at(800, undoBy(1, 0, 0, 1, 5, recordOf("x"))),
		"a byte too many for the slot":    at(800, updateBy(1, 0, 1, 4, longRecord(49, 1))),
		"a record that is too long":       at(800, updateBy(1, 0, 1, 0, longRecord(1001, 1))),
		"a record that is not used":       at(800, updateBy(1, 0, 1, 0, impl.PageRecord{Data: []byte{1}})),
		"the slot ahead of the first":     at(800, updateBy(1, 0, 1, -1, recordOf(""))),
		"the slot behind the last":        at(800, updateBy(1, 0, 1, 32, recordOf(""))),
		"the greatest slot":               at(800, undoBy(1, 0, 0, 1, math.MaxInt64, impl.PageRecord{})),
		"the least slot":                  at(800, undoBy(1, 0, 0, 1, math.MinInt64, impl.PageRecord{})),
		"a place behind the greatest LSN": at(greatestLSN+1, updateBy(1, 0, 1, 0, recordOf(""))),
		"the greatest number as LSN":      at(math.MaxInt64, updateBy(1, 0, 1, 0, recordOf(""))),
	}
	behind := at(900, updateBy(1, 0, 1, 0, impl.PageRecord{}))
	for name, f := range cases {
		holdRedo(t, name, page, 1, []impl.LogFrame{good, f}, 0, impl.PageResult{Code: 2})
		holdRedo(t, name+", and one behind it", page, 1, []impl.LogFrame{good, f, behind}, 0, impl.PageResult{Code: 2})
		f.Record.Page = 2
		holdRedo(t, name+", of another page", page, 1, []impl.LogFrame{good, f}, 0, impl.PageResult{Page: full})
		f.Record.Page, f.LSN = 1, 650
		holdRedo(t, name+", below", page, 1, []impl.LogFrame{good, f}, 651, impl.PageResult{Page: full})
		f.LSN = 600
		holdRedo(t, name+", at the page's LSN", page, 1, []impl.LogFrame{f, good}, 0, impl.PageResult{Page: full})
	}
	holdRedo(t, "the last slot", page, 1, []impl.LogFrame{at(greatestLSN, updateBy(1, 0, 1, 31, longRecord(48, 1)))}, greatestLSN,
		impl.PageResult{Page: plainSet(page, 31, longRecord(48, 1), greatestLSN)})
	room := []impl.LogFrame{at(800, updateBy(1, 0, 1, 3, impl.PageRecord{})), at(900, updateBy(1, 0, 1, 9, longRecord(948, 3)))}
	holdRedo(t, "room that was given up", page, 1, room, 0, impl.PageResult{Page: plainSet(plainSet(page, 3, impl.PageRecord{}, 800), 9, longRecord(948, 3), 900)})
}

func TestRedoOfFramesThatDoNotRise(t *testing.T) {
	page := plainNewPage(7)
	late, early := at(900, updateBy(1, 0, 7, 0, recordOf("late"))), at(800, updateBy(1, 0, 7, 1, recordOf("early")))
	same := at(900, updateBy(1, 0, 7, 2, recordOf("same")))
	want := impl.PageResult{Page: plainSet(page, 0, recordOf("late"), 900)}
	holdRedo(t, "frames that fall", page, 7, []impl.LogFrame{late, early}, 0, want)
	holdRedo(t, "one place twice", page, 7, []impl.LogFrame{late, same}, 0, want)
	holdRedo(t, "redone again", want.Page, 7, []impl.LogFrame{late, early, same}, 0, want)
	want.Page = plainSet(plainSet(page, 1, recordOf("early"), 800), 0, recordOf("late"), 900)
	holdRedo(t, "one that falls behind two", page, 7, []impl.LogFrame{early, late, early, same}, 0, want)
}

// lastRedone is the LSN that the page has behind all frames; its own, if none is redone.
func lastRedone(page []byte, number int64, frames []impl.LogFrame, from int64) int64 {
	lsn := int64(lsnOf(page))
	for _, f := range frames {
		if (f.Record.Kind == 1 || f.Record.Kind == 2) && f.Record.Page == number && f.LSN >= from && f.LSN > lsn {
			lsn = f.LSN
		}
	}
	return lsn
}

// TestRedoTwiceIsRedoOnce is P13, on the pages of many stories.
func TestRedoTwiceIsRedoOnce(t *testing.T) {
	r := rand.New(rand.NewSource(114))
	for range 60 {
		s := anyStory(r, 1+r.Intn(3), 20+r.Intn(80))
		frames := s.scan.Frames
		for number := range s.pages {
			n := int64(number)
			begin := impl.PageNew(n)
			all := impl.RedoPage(begin, n, frames, 512)
			if all.Code != 0 || !bytes.Equal(all.Page, s.pages[number]) {
				t.Fatal("redo of all frames leads to another page than their doing did, code", all.Code)
			}
			for k := range len(frames) + 1 {
				part := impl.RedoPage(begin, n, frames[:k], 512).Page
				if impl.PageLSN(part) != lastRedone(begin, n, frames[:k], 512) {
					t.Fatal("the page's LSN is", impl.PageLSN(part))
				}
				if !samePage(impl.RedoPage(part, n, frames[:k], 512), impl.PageResult{Page: part}) {
					t.Fatal("redo done twice is not redo done once")
				}
				if !samePage(impl.RedoPage(part, n, frames, 512), all) || !samePage(impl.RedoPage(part, n, frames[k:], 512), all) {
					t.Fatal("redo from the middle on leads to another page")
				}
				if k < len(frames) && !samePage(impl.RedoPage(part, n, frames, frames[k].LSN), all) {
					t.Fatal("redo from the first frame on that was not redone leads to another page")
				}
			}
		}
	}
}

// TestRedoOfAnyPagesAndFrames has frames that no engine logs: they may fall, and may not fit.
func TestRedoOfAnyPagesAndFrames(t *testing.T) {
	r := rand.New(rand.NewSource(115))
	codes := map[int64]int{}
	for range 400 {
		page := anyPage(r)
		number := ownOf(page)
		var frames []impl.LogFrame
		for range r.Intn(30) {
			f := at(r.Int63n(2000), anyLog(r))
			if f.Record.Kind <= 2 && r.Intn(3) > 0 {
				f.Record.Page = number
			}
			frames = append(frames, f)
		}
		from := r.Int63n(1500)
		got := impl.RedoPage(page, number, frames, from)
		if !samePage(got, plainRedo(page, number, frames, from)) {
			t.Fatal("RedoPage has the code", got.Code, "or another page")
		}
		codes[got.Code]++
		if got.Code != 0 {
			continue
		}
		if impl.PageLSN(got.Page) != lastRedone(page, number, frames, from) || !samePage(impl.RedoPage(got.Page, number, frames, from), got) {
			t.Fatal("redo done twice is not redo done once")
		}
		for k := range frames {
			part := impl.RedoPage(page, number, frames[:k], from)
			if !samePage(impl.RedoPage(part.Page, number, frames, from), got) {
				t.Fatal("redo up to a place and then of all is not redo of all")
			}
		}
	}
	if codes[0] < 40 || codes[2] < 40 {
		t.Error("the test's own pages have the codes", codes)
	}
}

// TestRedoOfATornPage begins with the last image, since the page's own bytes are worth nothing.
func TestRedoOfATornPage(t *testing.T) {
	r := rand.New(rand.NewSource(116))
	images := 0
	for range 60 {
		s := anyStory(r, 1+r.Intn(3), 30+r.Intn(80))
		frames := s.scan.Frames
		for number, page := range s.pages {
			image := impl.LastImage(frames, int64(number))
			if image.Code != 0 {
				continue
			}
			images++
			from := 0
			for i, f := range frames {
				if f.Record.Kind == 8 && f.Record.Page == int64(number) {
					from = i
				}
			}
			for _, behind := range [][]impl.LogFrame{frames, frames[from:]} {
				got := impl.RedoPage(image.Page, int64(number), behind, 512)
				if got.Code != 0 || allRecords(got.Page) != allRecords(page) || impl.PageLSN(got.Page) != int64(lsnOf(page)) {
					t.Fatal("the image and the frames behind it lead to other records, code", got.Code)
				}
			}
		}
	}
	if images < 40 {
		t.Error("the test's own stories have images of", images, "pages")
	}
}
