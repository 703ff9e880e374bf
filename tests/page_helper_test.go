package tests

import (
	"bytes"
	"encoding/binary"
	"math/rand"

	"loop.example/s02544/impl"
)

// Where the parts of a page stand, by the document's words.
const (
	lsnPlace    = 4
	numberPlace = 12
	bottomPlace = 16
	zerosPlace  = 18
	slotPlace   = 20
	heapPlace   = 148
	pageEnd     = 4096
)

type slotEntry struct{ slot, offset, length int }

func putLSN(page []byte, lsn uint64) { binary.BigEndian.PutUint64(page[lsnPlace:], lsn) }

func putOwn(page []byte, number uint32) { binary.BigEndian.PutUint32(page[numberPlace:], number) }

func putBottom(page []byte, bottom int) {
	binary.BigEndian.PutUint16(page[bottomPlace:], uint16(bottom))
}

func putSlot(page []byte, slot, offset, length int) {
	binary.BigEndian.PutUint16(page[slotPlace+4*slot:], uint16(offset))
	binary.BigEndian.PutUint16(page[slotPlace+4*slot+2:], uint16(length))
}

func lsnOf(page []byte) uint64 { return binary.BigEndian.Uint64(page[lsnPlace:]) }

func ownOf(page []byte) int64 { return int64(binary.BigEndian.Uint32(page[numberPlace:])) }

func bottomOf(page []byte) int { return int(binary.BigEndian.Uint16(page[bottomPlace:])) }

func slotOf(page []byte, slot int) slotEntry {
	at := slotPlace + 4*slot
	offset, length := binary.BigEndian.Uint16(page[at:]), binary.BigEndian.Uint16(page[at+2:])
	return slotEntry{slot: slot, offset: int(offset), length: int(length)}
}

// laidPage is a page of bytes laid by hand. Its heap is full of bytes in which
// no two parts are alike, also where no record is; its sum is a wrong one.
func laidPage(number uint32, lsn uint64, bottom int, slots ...slotEntry) []byte {
	page := make([]byte, pageEnd)
	copy(page, []byte{9, 8, 7, 6})
	putLSN(page, lsn)
	putOwn(page, number)
	putBottom(page, bottom)
	for _, s := range slots {
		putSlot(page, s.slot, s.offset, s.length)
	}
	for i := heapPlace; i < pageEnd; i++ {
		page[i] = byte(1 + (i*7+i/251)%255)
	}
	return page
}

// plainFault counts for each byte of the page the records that have it.
func plainFault(page []byte, number int64) int64 {
	if len(page) != pageEnd {
		return 1
	}
	if ownOf(page) != number {
		return 2
	}
	if lsnOf(page) > 1099511627776 || page[zerosPlace] != 0 || page[zerosPlace+1] != 0 {
		return 3
	}
	bottom := bottomOf(page)
	if bottom < heapPlace || bottom > pageEnd {
		return 4
	}
	for i := range 32 {
		s := slotOf(page, i)
		if s.offset == 0 && s.length != 0 || s.offset != 0 && (s.length > 1000 || s.offset < bottom || s.offset+s.length > pageEnd) {
			return 5
		}
	}
	var owners [pageEnd]int
	for i := range 32 {
		s := slotOf(page, i)
		for at := s.offset; at < s.offset+s.length; at++ {
			owners[at]++
			if owners[at] > 1 {
				return 6
			}
		}
	}
	return 0
}

func plainRecord(page []byte, slot int) []byte {
	s := slotOf(page, slot)
	return page[s.offset : s.offset+s.length]
}

func plainUsed(page []byte) int {
	total := 0
	for i := range 32 {
		total += slotOf(page, i).length
	}
	return total
}

// plainCompact joins the records from the last slot to the first, and lays them at the end.
func plainCompact(page []byte) []byte {
	c := make([]byte, pageEnd)
	copy(c, page[:heapPlace])
	var joined []byte
	for i := 31; i >= 0; i-- {
		joined = append(joined, plainRecord(page, i)...)
	}
	copy(c[pageEnd-len(joined):], joined)
	end := pageEnd
	for i := range 32 {
		if s := slotOf(page, i); s.offset != 0 {
			end -= s.length
			putSlot(c, i, end, s.length)
		}
	}
	putBottom(c, end)
	return c
}

// plainSet is what a well-formed page becomes, byte for byte, if nothing is refused.
func plainSet(page []byte, slot int, r impl.PageRecord, lsn int64) []byte {
	c := append([]byte(nil), page...)
	putSlot(c, slot, 0, 0)
	if r.Used {
		if heapPlace+len(r.Data) > bottomOf(c) {
			c = plainCompact(c)
		}
		bottom := bottomOf(c) - len(r.Data)
		copy(c[bottom:], r.Data)
		putBottom(c, bottom)
		putSlot(c, slot, bottom, len(r.Data))
	}
	putLSN(c, uint64(lsn))
	return c
}

func plainCode(page []byte, slot int64, r impl.PageRecord, lsn int64) int64 {
	if len(page) != pageEnd || plainFault(page, ownOf(page)) != 0 || slot < 0 || slot > 31 || lsn < 0 || lsn > 1099511627776 {
		return 1
	}
	if len(r.Data) > 1000 || !r.Used && len(r.Data) > 0 {
		return 1
	}
	if plainUsed(page)-slotOf(page, int(slot)).length+len(r.Data) > 3948 {
		return 2
	}
	return 0
}

func recordOf(text string) impl.PageRecord {
	return impl.PageRecord{Used: true, Data: []byte(text)}
}

func longRecord(n int, b byte) impl.PageRecord {
	return impl.PageRecord{Used: true, Data: bytes.Repeat([]byte{b}, n)}
}

func sameRecord(a, b impl.PageRecord) bool {
	return a.Used == b.Used && bytes.Equal(a.Data, b.Data)
}

// anyLength has short lengths, great ones and those at the bounds.
func anyLength(r *rand.Rand) int {
	switch r.Intn(6) {
	case 0:
		return 0
	case 1:
		return 1000
	case 2:
		return r.Intn(1001)
	case 3:
		return 900 + r.Intn(101)
	}
	return r.Intn(120)
}

// anyPage is well-formed, with records in any order of the slots and with gaps between them.
func anyPage(r *rand.Rand) []byte {
	page := laidPage(uint32(r.Intn(16)), uint64(r.Intn(1000)), pageEnd)
	end := pageEnd
	for _, slot := range r.Perm(32)[:r.Intn(33)] {
		if r.Intn(3) == 0 {
			end -= r.Intn(60)
		}
		length := min(anyLength(r), end-heapPlace)
		if length < 0 {
			break
		}
		end -= length
		putSlot(page, slot, end, length)
	}
	end = max(end, heapPlace)
	if r.Intn(2) == 0 {
		end -= r.Intn(end - heapPlace + 1)
	}
	putBottom(page, end)
	return page
}

type namedPage struct {
	name string
	page []byte
}

// faultyPages are pages that are not well-formed, whatever number is asked for.
func faultyPages() []namedPage {
	good := func() []byte {
		return laidPage(3, 5, 4000, slotEntry{0, 4000, 10}, slotEntry{4, 4050, 46}, slotEntry{31, 4020, 0})
	}
	with := func(change func(page []byte)) []byte {
		page := good()
		change(page)
		return page
	}
	return []namedPage{
		{"nil", nil},
		{"no bytes", []byte{}},
		{"a byte", []byte{1}},
		{"a head alone", good()[:20]},
		{"head and slots alone", good()[:148]},
		{"a byte too few", good()[:4095]},
		{"the first byte cut off", good()[1:]},
		{"a byte too many", append(good(), 0)},
		{"two pages", append(good(), good()...)},
		{"an LSN too great", with(func(page []byte) { putLSN(page, 1099511627777) })},
		{"an LSN that is no number", with(func(page []byte) { putLSN(page, 1<<63) })},
		{"the greatest LSN of 8 bytes", with(func(page []byte) { putLSN(page, 1<<64-1) })},
		{"the first of the bytes 0 is 1", with(func(page []byte) { page[zerosPlace] = 1 })},
		{"the second of the bytes 0 is 255", with(func(page []byte) { page[zerosPlace+1] = 255 })},
		{"a bottom in the slots", with(func(page []byte) { putBottom(page, 147) })},
		{"a bottom behind the page", with(func(page []byte) { putBottom(page, 4097) })},
		{"a bottom of 0", make([]byte, 4096)},
		{"a length without an offset", with(func(page []byte) { putSlot(page, 7, 0, 1) })},
		{"a record ahead of the bottom", with(func(page []byte) { putSlot(page, 7, 3999, 1) })},
		{"no bytes ahead of the bottom", with(func(page []byte) { putSlot(page, 7, 3999, 0) })},
		{"no bytes in the head", with(func(page []byte) { putSlot(page, 7, 1, 0) })},
		{"a record behind the end", with(func(page []byte) { putSlot(page, 4, 4050, 47) })},
		{"no bytes behind the end", with(func(page []byte) { putSlot(page, 4, 4097, 0) })},
		{"a record too long", laidPage(3, 5, 1000, slotEntry{2, 2000, 1001})},
		{"the greatest offset and length", with(func(page []byte) { putSlot(page, 31, 65535, 65535) })},
		{"records that share a byte", with(func(page []byte) { putSlot(page, 7, 4009, 5) })},
		{"a record inside another", with(func(page []byte) { putSlot(page, 7, 4060, 1) })},
		{"one record of two slots", with(func(page []byte) { putSlot(page, 7, 4050, 46) })},
	}
}
