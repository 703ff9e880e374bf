package tests

import (
	"math"
	"testing"

	"loop.example/s02544/impl"
)

func TestNumbersOfPlainTransactions(t *testing.T) {
	g := smallest(1)
	full := talkOf(cameUp(), begun(3), begunAll(11, 17))
	for _, c := range []struct {
		name  string
		ahead talk
		txn   int64
		is    bool
	}{
		{"0 as the first", cameUp(), 0, false},
		{"-1 as the first", cameUp(), -1, false},
		{"the least of all as the first", cameUp(), math.MinInt64, false},
		{"1 as the first", cameUp(), 1, true},
		{"any as the first", cameUp(), 77, true},
		{"the greatest as the first", cameUp(), greatestTxn, true},
		{"one above the greatest", cameUp(), greatestTxn + 1, false},
		{"one above the greatest as the second", talkOf(cameUp(), begun(greatestTxn)), greatestTxn + 1, false},
		{"the greatest of all numbers", cameUp(), math.MaxInt64, false},
		{"the greatest again", talkOf(cameUp(), begun(greatestTxn), done(commits(greatestTxn))), greatestTxn, false},
		{"the next", talkOf(cameUp(), begun(5)), 6, true},
		{"one far behind", talkOf(cameUp(), begun(5)), 600, true},
		{"the same", talkOf(cameUp(), begun(5)), 5, false},
		{"a lesser one", talkOf(cameUp(), begun(5)), 4, false},
		{"the same behind its commit", talkOf(cameUp(), begun(5), done(commits(5))), 5, false},
		{"the same behind its abort", talkOf(cameUp(), begun(5), done(aborts(5))), 5, false},
		{"a lesser one behind its commit", talkOf(cameUp(), begun(5), done(commits(5))), 1, false},
		{"one between two", talkOf(cameUp(), begun(5), begun(9), done(aborts(9))), 7, false},
		{"the first of two", talkOf(cameUp(), begun(5), begun(9), done(commits(5))), 5, false},
		{"behind a crash a lesser one", talkOf(cameUp(), begun(5), done(crashes()), cameUp()), 1, true},
		{"behind a crash the same", talkOf(cameUp(), begun(5), done(crashes()), cameUp()), 5, true},
		{"behind the power a lesser one", talkOf(cameUp(), begun(5), failed(begins(), codeDown), cameUp()), 2, true},
		{"behind a restart that is refused a lesser one", talkOf(cameUp(), begun(5), failed(restarts(), codeUp)), 2, false},
		{"behind a crash and one more a lesser one", talkOf(cameUp(), begun(5), done(crashes()), cameUp(), begun(3)), 2, false},
		{"behind a crash and one more one between", talkOf(cameUp(), begun(5), done(crashes()), cameUp(), begun(3)), 4, true},
		{"behind seven", full[:len(full)-1], 17, true},
		{"behind eight", full, 18, false},
		{"behind eight and a commit", talkOf(full, done(commits(13))), 18, true},
		{"behind eight and an abort", talkOf(full, done(aborts(3))), 18, true},
		{"behind eight and one that failed", talkOf(full, failed(commits(4), codeTxn)), 18, false},
	} {
		p := runTalk(g, nil, talkOf(c.ahead, begun(c.txn)))
		if c.is && p.Code != 0 || !c.is && !isZeroPlain(p, 1, int64(len(c.ahead))) {
			t.Error("the transaction", c.name, "has", p)
		}
	}
	askCodes(t, g, nil, []codeCase{
		{"the eighth transaction", full[:len(full)-1], begins(), impl.Answer{Txn: 17}, []int64{0, codeDown}},
		{"the ninth transaction", full, begins(), impl.Answer{Txn: 18}, []int64{codeDown, codeTxns}},
		{"the ninth behind a commit", talkOf(full, done(commits(17))), begins(), impl.Answer{Txn: 18}, []int64{0, codeDown}},
		{"the ninth twice", talkOf(full, failed(begins(), codeTxns)), begins(), impl.Answer{Txn: 18}, []int64{codeDown, codeTxns}},
		{"the first behind a crash", talkOf(full, done(crashes()), cameUp()), begins(), impl.Answer{Txn: 1}, []int64{0, codeDown}},
		{"a begin without a number", cameUp(), begins(), impl.Answer{}, []int64{codeDown}},
	})
}

// sideBySide has the records 0 to 4; the transaction 1 changed 0 and deleted 1,
// both read 2, 2 read 3 and asked for 9, and the insert of 1 stands at 6.
func sideBySide() (start []impl.HeapRecord, all talk) {
	start = recs(rec(0, "zero"), rec(1, "one"), rec(2, "two"), rec(3, "three"), rec(4, "four"))
	all = talkOf(
		cameUp(start...), begun(1), begun(2), begun(3), done(commits(3)),
		done(updates(1, 0, "null")), done(deletes(1, 1)), seen(1, 2, "two"), seen(2, 2, "two"), seen(2, 3, "three"),
		failed(reads(2, 9), codeAbsent), failed(deletes(1, 10), codeAbsent), inserted(1, 6, "six"),
	)
	return start, all
}

// TestTheOrderOfWhatIsWrong has, of each kind, each code with all later ones, and alone.
func TestTheOrderOfWhatIsWrong(t *testing.T) {
	start, ahead := sideBySide()
	big, most := textOf(1001, 'b'), textOf(1000, 'm')
	ok := impl.Answer{}
	askCodes(t, smallest(1), start, []codeCase{
		{"an insert of no transaction", ahead, inserts(4, big), impl.Answer{Id: 7}, []int64{codeDown, codeTxn}},
		{"an insert of one that has ended", ahead, inserts(3, "x"), impl.Answer{Id: 7}, []int64{codeDown, codeTxn}},
		{"an insert of the transaction 0", ahead, inserts(0, "x"), impl.Answer{Id: 7}, []int64{codeDown, codeTxn}},
		{"an insert of a negative one", ahead, inserts(math.MinInt64, "x"), impl.Answer{Id: 7}, []int64{codeDown, codeTxn}},
		{"an insert of too many bytes", ahead, inserts(1, big), impl.Answer{Id: 7}, []int64{codeDown, codeBig}},
		{"an insert of the most bytes", ahead, inserts(1, most), impl.Answer{Id: 7}, []int64{0, codeDown, codeSpace, codeLog}},
		{"an insert of no bytes", ahead, inserts(1, ""), impl.Answer{Id: 7}, []int64{0, codeDown, codeSpace, codeLog}},

		{"an update of no transaction", ahead, updates(3, 99, big), ok, []int64{codeDown, codeTxn}},
		{"an update of no transaction alone", ahead, updates(4, 4, "x"), ok, []int64{codeDown, codeTxn}},
		{"an update of too many bytes", ahead, updates(2, 99, big), ok, []int64{codeDown, codeBig}},
		{"an update of too many bytes in a conflict", ahead, updates(2, 0, big), ok, []int64{codeDown, codeBig}},
		{"an update of too many bytes where there is nothing", ahead, updates(2, 20, big), ok, []int64{codeDown, codeBig}},
		{"an update of too many bytes alone", ahead, updates(2, 4, big), ok, []int64{codeDown, codeBig}},
		{"an update of the id -1", ahead, updates(2, -1, most), ok, []int64{codeDown, codeId}},
		{"an update of the id behind the last", ahead, updates(2, 32, "x"), ok, []int64{codeDown, codeId}},
		{"an update of the greatest id", ahead, updates(2, math.MaxInt64, "x"), ok, []int64{codeDown, codeId}},
		{"an update of the least id", ahead, updates(2, math.MinInt64, "x"), ok, []int64{codeDown, codeId}},
		{"an update of what another one changed", ahead, updates(2, 0, "x"), ok, []int64{codeDown, codeConflict}},
		{"an update of what another one deleted", ahead, updates(2, 1, "x"), ok, []int64{codeDown, codeConflict}},
		{"an update of what both read", ahead, updates(1, 2, "x"), ok, []int64{codeDown, codeConflict}},
		{"an update of what another one read", ahead, updates(1, 3, "x"), ok, []int64{codeDown, codeConflict}},
		{"an update of what another one missed", ahead, updates(1, 9, "x"), ok, []int64{codeDown, codeConflict}},
		{"an update of what another one inserted", ahead, updates(2, 6, "x"), ok, []int64{codeDown, codeConflict}},
		{"an update of what is not there", ahead, updates(2, 31, most), ok, []int64{codeDown, codeAbsent}},
		{"an update of what itself deleted", ahead, updates(1, 1, "x"), ok, []int64{codeDown, codeAbsent}},
		{"an update of what itself missed", ahead, updates(2, 9, "x"), ok, []int64{codeDown, codeAbsent}},
		{"an update of what itself inserted", ahead, updates(1, 6, "SIX"), ok, []int64{0, codeDown, codeLog}},
		{"an update of what itself alone read", ahead, updates(2, 3, "x"), ok, []int64{0, codeDown, codeLog}},
		{"an update to the most bytes", ahead, updates(2, 4, most), ok, []int64{0, codeDown, codeSpace, codeLog}},

		{"a delete of no transaction", ahead, deletes(4, 99), ok, []int64{codeDown, codeTxn}},
		{"a delete of no transaction alone", ahead, deletes(3, 4), ok, []int64{codeDown, codeTxn}},
		{"a delete of the id -1", ahead, deletes(1, -1), ok, []int64{codeDown, codeId}},
		{"a delete of the id behind the last", ahead, deletes(1, 32), ok, []int64{codeDown, codeId}},
		{"a delete of what another one changed", ahead, deletes(2, 0), ok, []int64{codeDown, codeConflict}},
		{"a delete of what another one deleted", ahead, deletes(2, 1), ok, []int64{codeDown, codeConflict}},
		{"a delete of what both read", ahead, deletes(2, 2), ok, []int64{codeDown, codeConflict}},
		{"a delete of what another one asked for in vain", ahead, deletes(2, 10), ok, []int64{codeDown, codeConflict}},
		{"a delete of what is not there", ahead, deletes(2, 30), ok, []int64{codeDown, codeAbsent}},
		{"a delete of what itself deleted", ahead, deletes(1, 1), ok, []int64{codeDown, codeAbsent}},
		{"a delete of what itself inserted", ahead, deletes(1, 6), ok, []int64{0, codeDown, codeLog}},
		{"a delete", ahead, deletes(2, 4), ok, []int64{0, codeDown, codeLog}},

		{"a read of no transaction", ahead, reads(4, 99), ok, []int64{codeDown, codeTxn}},
		{"a read of no transaction alone", ahead, reads(-3, 4), impl.Answer{Data: []byte("four")}, []int64{codeDown, codeTxn}},
		{"a read of the id -1", ahead, reads(1, -1), ok, []int64{codeDown, codeId}},
		{"a read of the id behind the last", ahead, reads(1, 32), ok, []int64{codeDown, codeId}},
		{"a read of what another one changed", ahead, reads(2, 0), impl.Answer{Data: []byte("zero")}, []int64{codeDown, codeConflict}},
		{"a read of what another one deleted", ahead, reads(2, 1), impl.Answer{Data: []byte("one")}, []int64{codeDown, codeConflict}},
		{"a read of what another one inserted", ahead, reads(2, 6), impl.Answer{Data: []byte("six")}, []int64{codeDown, codeConflict}},
		{"a read of what another one asked for in vain", ahead, reads(2, 10), ok, []int64{codeDown, codeConflict}},
		{"a read of what is not there", ahead, reads(1, 20), ok, []int64{codeDown, codeAbsent}},
		{"a read of what both miss", ahead, reads(1, 9), ok, []int64{codeDown, codeAbsent}},
		{"a read of one's own delete", ahead, reads(1, 1), impl.Answer{Data: []byte("one")}, []int64{codeDown, codeAbsent}},
		{"a read", ahead, reads(1, 4), impl.Answer{Data: []byte("four")}, []int64{0, codeDown}},
		{"a read of what both read", ahead, reads(1, 2), impl.Answer{Data: []byte("two")}, []int64{0, codeDown}},
		{"a read of what another one reads", ahead, reads(1, 3), impl.Answer{Data: []byte("three")}, []int64{0, codeDown}},

		{"a commit of no transaction", ahead, commits(4), ok, []int64{codeDown, codeTxn}},
		{"a commit of one that has ended", ahead, commits(3), ok, []int64{codeDown, codeTxn}},
		{"a commit of the transaction 0", ahead, commits(0), ok, []int64{codeDown, codeTxn}},
		{"a commit", ahead, commits(2), ok, []int64{0, codeDown}},
		{"an abort of no transaction", ahead, aborts(4), ok, []int64{codeDown, codeTxn}},
		{"an abort of one that has ended", ahead, aborts(3), ok, []int64{codeDown, codeTxn}},
		{"an abort", ahead, aborts(1), ok, []int64{0, codeDown}},
		{"a checkpoint", ahead, checkpoints(), ok, []int64{0, codeDown, codeLog}},
	})
}

func TestIdsOfGreaterHeaps(t *testing.T) {
	for _, pages := range []int64{1, 2, 16} {
		g := smallest(pages)
		last := pages*slotsEach - 1
		start := recs(rec(last, "end"))
		ahead := talkOf(cameUp(start...), begun(1))
		askCodes(t, g, start, []codeCase{
			{"the last record", ahead, reads(1, last), impl.Answer{Data: []byte("end")}, []int64{0, codeDown}},
			{"an update of the last record", ahead, updates(1, last, "END"), impl.Answer{}, []int64{0, codeDown, codeLog}},
			{"the id behind the last", ahead, reads(1, last+1), impl.Answer{}, []int64{codeDown, codeId}},
			{"an update behind the last", ahead, updates(1, last+1, ""), impl.Answer{}, []int64{codeDown, codeId}},
			{"a delete behind the last", ahead, deletes(1, last+1), impl.Answer{}, []int64{codeDown, codeId}},
			{"the id ahead of the last", ahead, reads(1, last-1), impl.Answer{}, []int64{codeDown, codeAbsent}},
			{"an insert ahead of the last", ahead, inserts(1, ""), impl.Answer{Id: last - 1}, []int64{0, codeDown, codeSpace, codeLog}},
			{"an insert behind the last", ahead, inserts(1, ""), impl.Answer{Id: last + 1}, []int64{codeDown, codeSpace, codeLog}},
		})
	}
}

// TestUpdatesThatMayLackSpace: only one by which the record becomes longer than it was at any time.
func TestUpdatesThatMayLackSpace(t *testing.T) {
	start := recs(rec(0, "12345"), rec(1, ""), rec(2, "12345"))
	ahead := talkOf(cameUp(start...), begun(1), begun(2))
	with, without := []int64{0, codeDown, codeSpace, codeLog}, []int64{0, codeDown, codeLog}
	ok := impl.Answer{}
	shrunk := talkOf(ahead, done(updates(1, 0, "1")))
	grown := talkOf(ahead, done(updates(1, 0, "12345678")), done(updates(1, 0, "1")))
	fresh := talkOf(ahead, inserted(1, 9, "123"))
	shorter := talkOf(fresh, done(updates(1, 9, "")))
	ended := talkOf(grown, done(commits(1)))
	undone := talkOf(grown, done(aborts(1)))
	others := talkOf(ahead, done(updates(2, 2, "12345678")))
	askCodes(t, smallest(1), start, []codeCase{
		{"an equally long one", ahead, updates(1, 0, "54321"), ok, without},
		{"the same one", ahead, updates(1, 0, "12345"), ok, without},
		{"a shorter one", ahead, updates(1, 0, "1234"), ok, without},
		{"one of no bytes", ahead, updates(1, 0, ""), ok, without},
		{"a byte more", ahead, updates(1, 0, "123456"), ok, with},
		{"a byte in the place of none", ahead, updates(1, 1, "1"), ok, with},
		{"none in the place of none", ahead, updates(1, 1, ""), ok, without},
		{"back to the committed length", shrunk, updates(1, 0, "abcde"), ok, without},
		{"above the committed length", shrunk, updates(1, 0, "abcdef"), ok, with},
		{"above the last writing alone", grown, updates(1, 0, "12"), ok, without},
		{"above the committed record alone", grown, updates(1, 0, "123456"), ok, without},
		{"as long as an earlier writing", grown, updates(1, 0, "abcdefgh"), ok, without},
		{"above all of them", grown, updates(1, 0, "abcdefghi"), ok, with},
		{"as long as the insert", fresh, updates(1, 9, "abc"), ok, without},
		{"above the insert", fresh, updates(1, 9, "abcd"), ok, with},
		{"back to the insert", shorter, updates(1, 9, "abc"), ok, without},
		{"above the insert again", shorter, updates(1, 9, "abcd"), ok, with},
		{"above what was committed last", ended, updates(2, 0, "12"), ok, with},
		{"as long as what was committed last", ended, updates(2, 0, "2"), ok, without},
		{"above what was not undone", undone, updates(2, 0, "123456"), ok, with},
		{"as long as what came back", undone, updates(2, 0, "12345"), ok, without},
		{"beside a longer one of another id", others, updates(1, 0, "123456"), ok, with},
		{"beside a longer one of another transaction", talkOf(others, done(aborts(2))), updates(1, 2, "123456"), ok, with},
		{"a delete behind growth", grown, deletes(1, 0), ok, without},
		{"an insert of no bytes", ahead, inserts(1, ""), impl.Answer{Id: 3}, with},
		{"a read", ahead, reads(1, 0), impl.Answer{Data: []byte("12345")}, []int64{0, codeDown}},
		{"a checkpoint", grown, checkpoints(), ok, without},
		{"a commit", grown, commits(1), ok, []int64{0, codeDown}},
		{"an abort", grown, aborts(1), ok, []int64{0, codeDown}},
		{"a begin", grown, begins(), impl.Answer{Txn: 3}, []int64{0, codeDown}},
	})
}

// TestRefusalsChangeNothing: no lock is taken, nothing is written, nothing is longer.
func TestRefusalsChangeNothing(t *testing.T) {
	g := smallest(1)
	start := recs(rec(0, "12345"), rec(1, "one"))
	ahead := talkOf(cameUp(start...), begun(1), begun(2), seen(1, 1, "one"))
	for _, c := range []struct {
		name string
		step impl.Step
		code int64
	}{
		{"an insert without space", inserts(1, "new"), codeSpace},
		{"an insert without log", inserts(1, "new"), codeLog},
		{"an update without space", updates(1, 0, "123456"), codeSpace},
		{"an update without log", updates(1, 0, "1234567"), codeLog},
		{"a delete without log", deletes(1, 0), codeLog},
		{"a checkpoint without log", checkpoints(), codeLog},
		{"a change without log of what it reads", updates(1, 1, "x"), codeLog},
		{"too many bytes", updates(1, 0, textOf(1001, 'b')), codeBig},
		{"an id that is none", deletes(1, 99), codeId},
		{"no transaction", updates(7, 0, "x"), codeTxn},
		{"a conflict", updates(2, 1, "x"), codeConflict},
	} {
		behind := talkOf(ahead, failed(c.step, c.code))
		p := runTalk(g, start, behind)
		if !samePlain(p, impl.Plain{Place: int64(len(behind)), Records: start, Txns: []impl.PlainTxn{{Txn: 1}, {Txn: 2}}}) {
			t.Error(c.name, "leaves", p)
		}
		askCodes(t, g, start, []codeCase{
			{c.name + " and a change of another one", behind, deletes(2, 0), impl.Answer{}, []int64{0, codeDown, codeLog}},
			{c.name + " and a longer one", behind, updates(1, 0, "123456"), impl.Answer{}, []int64{0, codeDown, codeSpace, codeLog}},
			{c.name + " and a read of another one", behind, reads(2, 1), impl.Answer{Data: []byte("one")}, []int64{0, codeDown}},
			{c.name + " and an insert at 2", behind, inserts(2, "x"), impl.Answer{Id: 2}, []int64{0, codeDown, codeSpace, codeLog}},
		})
	}
}

func TestIdsOfInserts(t *testing.T) {
	start, ahead := sideBySide()
	for _, c := range []struct {
		name  string
		ahead talk
		txn   int64
		id    int64
		is    bool
	}{
		{"the least free one", ahead, 1, 5, true},
		{"the last one", ahead, 1, 31, true},
		{"any free one", ahead, 2, 17, true},
		{"the id -1", ahead, 1, -1, false},
		{"the id behind the last", ahead, 1, 32, false},
		{"the least of all", ahead, 1, math.MinInt64, false},
		{"the greatest of all", ahead, 1, math.MaxInt64, false},
		{"a committed record", ahead, 1, 4, false},
		{"a committed record that it reads", ahead, 1, 2, false},
		{"a record that it changed", ahead, 1, 0, false},
		{"a record that it deleted", ahead, 1, 1, false},
		{"a record that another one deleted", ahead, 2, 1, false},
		{"its own insert", ahead, 1, 6, false},
		{"an insert of another one", ahead, 2, 6, false},
		{"its own insert that is gone", talkOf(ahead, done(deletes(1, 6))), 1, 6, false},
		{"an insert of another one that is gone", talkOf(ahead, done(deletes(1, 6))), 2, 6, false},
		{"an insert that was committed", talkOf(ahead, done(commits(1))), 2, 6, false},
		{"an insert that was undone", talkOf(ahead, done(aborts(1))), 2, 6, true},
		{"an insert that is gone and committed", talkOf(ahead, done(deletes(1, 6)), done(commits(1))), 2, 6, true},
		{"a delete that was committed", talkOf(ahead, done(commits(1))), 2, 1, true},
		{"a delete that was undone", talkOf(ahead, done(aborts(1))), 2, 1, false},
		{"a shared lock of another one", ahead, 1, 9, false},
		{"an exclusive lock of another one", ahead, 2, 10, false},
		{"a shared lock of its own", ahead, 2, 9, true},
		{"an exclusive lock of its own", ahead, 1, 10, true},
		{"a shared lock of both", talkOf(ahead, failed(reads(1, 9), codeAbsent)), 2, 9, false},
		{"a lock that was freed by a commit", talkOf(ahead, done(commits(2))), 1, 9, true},
		{"a lock that was freed by an abort", talkOf(ahead, done(aborts(1))), 2, 10, true},
	} {
		p := runTalk(smallest(1), start, talkOf(c.ahead, inserted(c.txn, c.id, "new")))
		if c.is && p.Code != 0 || !c.is && !isZeroPlain(p, 1, int64(len(c.ahead))) {
			t.Error("an insert at", c.name, "has", p)
		}
	}
	// At its id it is locked, and seen by none but its own transaction.
	behind := talkOf(ahead, inserted(2, 9, "nine"))
	askCodes(t, smallest(1), start, []codeCase{
		{"a read of the insert", behind, reads(2, 9), impl.Answer{Data: []byte("nine")}, []int64{0, codeDown}},
		{"a read of another one's insert", behind, reads(1, 9), impl.Answer{Data: []byte("nine")}, []int64{codeDown, codeConflict}},
		{"a read behind its commit", talkOf(behind, done(commits(2))), reads(1, 9), impl.Answer{Data: []byte("nine")}, []int64{0, codeDown}},
		{"a read behind its abort", talkOf(behind, done(aborts(2))), reads(1, 9), impl.Answer{}, []int64{codeDown, codeAbsent}},
	})
}

func TestWhatAReadSees(t *testing.T) {
	start, ahead := sideBySide()
	for _, c := range []struct {
		name  string
		ahead talk
		txn   int64
		id    int64
		want  string
	}{
		{"the committed record", ahead, 2, 4, "four"},
		{"its own writing", ahead, 1, 0, "null"},
		{"its own insert", ahead, 1, 6, "six"},
		{"its own last writing", talkOf(ahead, done(updates(1, 0, "nought")), done(updates(1, 0, "0"))), 1, 0, "0"},
		{"its own empty writing", talkOf(ahead, done(updates(1, 0, ""))), 1, 0, ""},
		{"its own writing beside others", talkOf(ahead, done(updates(2, 4, "vier"))), 1, 0, "null"},
		{"a writing of another one behind its commit", talkOf(ahead, done(commits(1))), 2, 0, "null"},
		{"what another one undid", talkOf(ahead, done(aborts(1))), 2, 0, "zero"},
		{"what came back", talkOf(ahead, done(aborts(1))), 2, 1, "one"},
		{"what was committed over what was committed", talkOf(ahead, done(commits(1)), done(updates(2, 0, "again")), done(commits(2)), begun(4)), 4, 0, "again"},
	} {
		for _, told := range []string{"zero", "null", "six", "four", "one", "0", "nought", "again", "", "vier", c.want + "\x00"} {
			p := runTalk(smallest(1), start, talkOf(c.ahead, seen(c.txn, c.id, told)))
			if told == c.want && p.Code != 0 || told != c.want && !isZeroPlain(p, 1, int64(len(c.ahead))) {
				t.Error("a read of", c.name, "that tells", told, "has", p)
			}
		}
	}
}

func TestLocksOfAPlainMap(t *testing.T) {
	start := recs(rec(0, "zero"), rec(1, "one"))
	ahead := talkOf(cameUp(start...), begun(1), begun(2))
	free, taken, absent := []int64{0, codeDown, codeLog}, []int64{codeDown, codeConflict}, []int64{codeDown, codeAbsent}
	for _, c := range []struct {
		name    string
		more    talk
		id      int64
		reading []int64
		writing []int64
	}{
		{"nothing", nil, 0, []int64{0, codeDown}, free},
		{"a read", seen(1, 0, "zero"), 0, []int64{0, codeDown}, taken},
		{"two reads", talkOf(seen(1, 0, "zero"), seen(1, 0, "zero")), 0, []int64{0, codeDown}, taken},
		{"a read of both", talkOf(seen(1, 0, "zero"), seen(2, 0, "zero")), 0, []int64{0, codeDown}, taken},
		{"an update", done(updates(1, 0, "zero")), 0, taken, taken},
		{"a read that became an update", talkOf(seen(1, 0, "zero"), done(updates(1, 0, "zero"))), 0, taken, taken},
		{"an update and a read", talkOf(done(updates(1, 0, "zero")), seen(1, 0, "zero")), 0, taken, taken},
		{"a read that became a delete", talkOf(seen(1, 0, "zero"), done(deletes(1, 0))), 0, taken, taken},
		{"a delete and a read of it", talkOf(done(deletes(1, 0)), failed(reads(1, 0), codeAbsent)), 0, taken, taken},
		{"a read of what is not there", failed(reads(1, 5), codeAbsent), 5, absent, taken},
		{"an update of what is not there", failed(updates(1, 5, "x"), codeAbsent), 5, taken, taken},
		{"a delete of what is not there", failed(deletes(1, 5), codeAbsent), 5, taken, taken},
		{"a read and a delete of what is not there", talkOf(failed(reads(1, 5), codeAbsent), failed(deletes(1, 5), codeAbsent)), 5, taken, taken},
		{"a delete and a read of what is not there", talkOf(failed(deletes(1, 5), codeAbsent), failed(reads(1, 5), codeAbsent)), 5, taken, taken},
		{"an insert", inserted(1, 5, "x"), 5, taken, taken},
		{"a read of another id", seen(1, 1, "one"), 0, []int64{0, codeDown}, free},
		{"a read and a commit", talkOf(seen(1, 0, "zero"), done(commits(1))), 0, []int64{0, codeDown}, free},
		{"an update and a commit", talkOf(done(updates(1, 0, "zero")), done(commits(1))), 0, []int64{0, codeDown}, free},
		{"an update and an abort", talkOf(done(updates(1, 0, "never")), done(aborts(1))), 0, []int64{0, codeDown}, free},
		{"what is not there and a commit", talkOf(failed(deletes(1, 5), codeAbsent), done(commits(1))), 5, absent, absent},
		{"what is not there and an abort", talkOf(failed(deletes(1, 5), codeAbsent), done(aborts(1))), 5, absent, absent},
		{"a conflict", talkOf(done(updates(1, 0, "zero")), failed(updates(2, 0, "x"), codeConflict), done(commits(1))), 0, []int64{0, codeDown}, free},
		{"a conflict beside one's own lock", talkOf(seen(2, 0, "zero"), seen(1, 0, "zero"), failed(updates(2, 0, "x"), codeConflict), done(commits(1))), 0, []int64{0, codeDown}, free},
	} {
		ok := impl.Answer{Data: []byte("zero")}
		if c.id != 0 {
			ok.Data = []byte("x")
		}
		askCodes(t, smallest(1), start, []codeCase{
			{"a read behind " + c.name, talkOf(ahead, c.more), reads(2, c.id), ok, c.reading},
			{"an update behind " + c.name, talkOf(ahead, c.more), updates(2, c.id, "1234"), impl.Answer{}, c.writing},
			{"a delete behind " + c.name, talkOf(ahead, c.more), deletes(2, c.id), impl.Answer{}, c.writing},
		})
	}
	// What a conflict was refused for is not held: the first one may go on to write.
	shared := talkOf(ahead, seen(1, 0, "zero"), seen(2, 0, "zero"), failed(deletes(2, 0), codeConflict), done(commits(2)), done(updates(1, 0, "x")))
	if p := runTalk(smallest(1), start, shared); p.Code != 0 {
		t.Error("a shared lock behind a conflict has", p)
	}
}

func TestEndsOfPlainTransactions(t *testing.T) {
	start, ahead := sideBySide()
	committed := recs(rec(0, "null"), rec(2, "two"), rec(3, "three"), rec(4, "four"), rec(6, "six"))
	for _, c := range []struct {
		name string
		more talk
		want []impl.HeapRecord
		txns int
	}{
		{"a commit", done(commits(1)), committed, 1},
		{"an abort", done(aborts(1)), start, 1},
		{"a commit of the other one", done(commits(2)), start, 1},
		{"both", talkOf(done(updates(2, 4, "vier")), done(commits(1)), done(aborts(2))), committed, 0},
		{"a commit that failed", failed(commits(4), codeTxn), start, 2},
	} {
		all := talkOf(ahead, c.more)
		if p := runTalk(smallest(1), start, all); p.Code != 0 || !sameRecords(p.Records, c.want) || len(p.Txns) != c.txns {
			t.Error("behind", c.name, "it tells", p)
		}
		for _, s := range []impl.Step{commits(1), aborts(1), reads(1, 0), inserts(1, "x")} {
			if p := runTalk(smallest(1), start, talkOf(all, failed(s, codeTxn))); (p.Code == 0) != (c.more[0].step.Txn == 1 || len(c.more) > 1) {
				t.Error("behind", c.name, "the kind", s.Kind, "has", p.Code)
			}
		}
	}
}
