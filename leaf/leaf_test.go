package leaf

import (
	"bytes"
	"fmt"
	"math"
	"math/rand/v2"
	"slices"
	"strings"
	"testing"

	"humus/api"
)

const most = 1<<31 - 1

// itl is a list of writers.
func itl(w ...int) []int { return w }

// made is a leaf of these writers, and of these slots, of which "" are empty ones.
func made(writers []int, slots ...string) api.Leaf {
	l := api.Leaf{Itl: slices.Clone(writers)}
	for _, s := range slots {
		l.Slots = append(l.Slots, []byte(s))
	}
	return l
}

// plain is a leaf of these slots, on which nobody writes.
func plain(slots ...string) api.Leaf { return made(itl(0, 0, 0, 0), slots...) }

// text is n bytes that hang on a tag.
func text(tag, n int) string {
	b := make([]byte, n)
	for i := range b {
		b[i] = byte(tag + 101*i)
	}
	return string(b)
}

// slotsOf is slots of so many bytes each.
func slotsOf(sizes ...int) []string {
	var l []string
	for i, n := range sizes {
		l = append(l, text(7*i+1, n))
	}
	return l
}

// times is a list of the same size so many times.
func times(n, size int) []int { return slices.Repeat([]int{size}, n) }

// alike goes by the parts, one after the other: what is told must not hang on Same.
func alike(a, b api.Leaf) bool {
	if len(a.Itl) != len(b.Itl) || len(a.Slots) != len(b.Slots) {
		return false
	}
	for i := range a.Itl {
		if a.Itl[i] != b.Itl[i] {
			return false
		}
	}
	for i := range a.Slots {
		if string(a.Slots[i]) != string(b.Slots[i]) {
			return false
		}
	}
	return true
}

// twin is a leaf that is alike, in memory of its own.
func twin(l api.Leaf) api.Leaf {
	t := api.Leaf{Itl: slices.Clone(l.Itl)}
	for _, s := range l.Slots {
		t.Slots = append(t.Slots, bytes.Clone(s))
	}
	return t
}

// tell is a leaf's text for a report: long slots by their sizes.
func tell(l api.Leaf) string {
	var s []string
	for _, x := range l.Slots {
		if len(x) > 8 {
			s = append(s, fmt.Sprintf("%.4X..(%d)", x, len(x)))
		} else {
			s = append(s, fmt.Sprintf("%X", x))
		}
	}
	return fmt.Sprintf("%v [%s]", l.Itl, strings.Join(s, " "))
}

func wantSet(t *testing.T, l api.Leaf, slot int, row string, want api.Leaf, why api.Errno) {
	t.Helper()
	if got, e := Set(l, slot, []byte(row)); !alike(got, want) || e != why {
		t.Fatalf("Set(%s, %d, of %d bytes) = %s, error %d, not %s, %d", tell(l), slot, len(row), tell(got), e, tell(want), why)
	}
}

func wantDrop(t *testing.T, l api.Leaf, slot int, want api.Leaf, why api.Errno) {
	t.Helper()
	if got, e := Drop(l, slot); !alike(got, want) || e != why {
		t.Fatalf("Drop(%s, %d) = %s, error %d, not %s, %d", tell(l), slot, tell(got), e, tell(want), why)
	}
}

func wantInsert(t *testing.T, l api.Leaf, row string, want api.Leaf, slot int, why api.Errno) {
	t.Helper()
	if got, i, e := Insert(l, []byte(row)); !alike(got, want) || i != slot || e != why {
		t.Fatalf("Insert(%s, of %d bytes) = %s, %d, error %d, not %s, %d, %d", tell(l), len(row), tell(got), i, e, tell(want), slot, why)
	}
}

func wantJoin(t *testing.T, l api.Leaf, writer int, live []int, want api.Leaf, why api.Errno) {
	t.Helper()
	if got, e := Join(l, writer, live); !alike(got, want) || e != why {
		t.Fatalf("Join(%s, %d, %v) = %s, error %d, not %s, %d", tell(l), writer, live, tell(got), e, tell(want), why)
	}
}

func wantDecode(t *testing.T, b []byte, want api.Leaf, why api.Errno, of string) {
	t.Helper()
	if got, e := Decode(b); !alike(got, want) || e != why {
		t.Fatalf("%s: Decode = %s, error %d, not %s, %d", of, tell(got), e, tell(want), why)
	}
}

// slowSum goes by layer 2's words, bit by bit.
func slowSum(b []byte) uint32 {
	register := ^uint32(0)
	for _, c := range b {
		for bit := 7; bit >= 0; bit-- {
			out := register >> 31
			register <<= 1
			if out != uint32(c)>>bit&1 {
				register ^= 0x814141AB
			}
		}
	}
	return register
}

// sealed is a page of these bytes, with noughts behind them, and their sum.
func sealed(b []byte) []byte {
	whole := make([]byte, 508)
	if copy(whole, b) < len(b) {
		panic("too long for a page")
	}
	s := slowSum(whole)
	return append([]byte{byte(s >> 24), byte(s >> 16), byte(s >> 8), byte(s)}, whole...)
}

// items is what a leaf's page has behind its sum, and ahead of its noughts; so many slots as it is told, whatever there are.
func items(count int, l api.Leaf) []byte {
	b := []byte{'L'}
	for _, w := range l.Itl {
		b = append(b, byte(w>>24), byte(w>>16), byte(w>>8), byte(w))
	}
	b = append(b, byte(count))
	for _, s := range l.Slots {
		b = append(b, byte(len(s)))
		b = append(b, s...)
	}
	return b
}

// pageOf is a leaf's page, by the chapter's words.
func pageOf(l api.Leaf) []byte { return sealed(items(len(l.Slots), l)) }

func slowNeed(l api.Leaf) int { return 18 + len(l.Slots) + len(bytes.Join(l.Slots, nil)) }

// slowCheck goes by the chapter's words.
func slowCheck(l api.Leaf) api.Errno {
	good := len(l.Itl) == 4 && len(l.Slots) <= 64 && slowNeed(l) <= 508
	for i, w := range l.Itl {
		good = good && 0 <= w && w <= most
		for j, o := range l.Itl {
			good = good && (i == j || w != o || w == 0)
		}
	}
	for i, s := range l.Slots {
		good = good && len(s) <= 255 && (i+1 < len(l.Slots) || len(s) != 0)
	}
	if good {
		return api.OK
	}
	return api.ErrArg
}

// slowDecode goes by the chapter's words.
func slowDecode(b []byte) (api.Leaf, api.Errno) {
	if len(b) != 512 {
		return api.Leaf{}, api.ErrArg
	}
	if bytes.Count(b, []byte{0}) == 512 {
		return plain(), api.OK
	}
	if s := slowSum(b[4:]); !bytes.Equal(b[:4], []byte{byte(s >> 24), byte(s >> 16), byte(s >> 8), byte(s)}) {
		return api.Leaf{}, api.ErrSum
	}
	l, rest, good := api.Leaf{}, b[22:], b[4] == 76
	for i := 5; i < 21; i += 4 {
		l.Itl = append(l.Itl, int(b[i])<<24+int(b[i+1])<<16+int(b[i+2])<<8+int(b[i+3]))
	}
	for range b[21] {
		if len(rest) == 0 || len(rest) < 1+int(rest[0]) {
			return api.Leaf{}, api.ErrText
		}
		end := 1 + int(rest[0])
		l.Slots = append(l.Slots, rest[1:end])
		rest = rest[end:]
	}
	if !good || bytes.Count(rest, []byte{0}) != len(rest) || slowCheck(l) != api.OK {
		return api.Leaf{}, api.ErrText
	}
	return twin(l), api.OK
}

// slowSet goes by the chapter's words, of a leaf that may be.
func slowSet(l api.Leaf, slot int, row string) (api.Leaf, api.Errno) {
	next := twin(l)
	if slot < 0 || slot >= len(l.Slots) || len(l.Slots[slot]) == 0 {
		return next, api.ErrNone
	}
	if row == "" || len(row) > 255 {
		return next, api.ErrArg
	}
	if slowNeed(l)-len(l.Slots[slot])+len(row) > 508 {
		return next, api.ErrPage
	}
	next.Slots[slot] = []byte(row)
	return next, api.OK
}

// slowDrop goes by the chapter's words, of a leaf that may be.
func slowDrop(l api.Leaf, slot int) (api.Leaf, api.Errno) {
	next := twin(l)
	if slot < 0 || slot >= len(l.Slots) || len(l.Slots[slot]) == 0 {
		return next, api.ErrNone
	}
	next.Slots[slot] = nil
	for n := len(next.Slots); n > 0 && len(next.Slots[n-1]) == 0; n-- {
		next.Slots = slices.Delete(next.Slots, n-1, n)
	}
	return next, api.OK
}

// slowInsert goes by the chapter's words, of a leaf that may be.
func slowInsert(l api.Leaf, row string) (api.Leaf, int, api.Errno) {
	next := twin(l)
	if row == "" || len(row) > 255 {
		return next, -1, api.ErrArg
	}
	for i, s := range l.Slots {
		if len(s) != 0 {
			continue
		}
		if slowNeed(l)+len(row) > 508 {
			return next, -1, api.ErrPage
		}
		next.Slots[i] = []byte(row)
		return next, i, api.OK
	}
	if len(l.Slots) == 64 || slowNeed(l)+1+len(row) > 508 {
		return next, -1, api.ErrPage
	}
	next.Slots = append(next.Slots, []byte(row))
	return next, len(l.Slots), api.OK
}

// slowJoin goes by the chapter's words, of a leaf that may be.
func slowJoin(l api.Leaf, writer int, live []int) (api.Leaf, api.Errno) {
	next := twin(l)
	if writer < 1 || writer > most {
		return next, api.ErrArg
	}
	for _, w := range l.Itl {
		if w == writer {
			return next, api.OK
		}
	}
	for i, w := range l.Itl {
		if w == 0 {
			next.Itl[i] = writer
			return next, api.OK
		}
	}
	for i, w := range l.Itl {
		lives := false
		for _, x := range live {
			lives = lives || x == w
		}
		if !lives {
			next.Itl[i] = writer
			return next, api.OK
		}
	}
	return next, api.ErrItl
}

// sample is a leaf with a name, and the room that it has.
type sample struct {
	name string
	l    api.Leaf
	room int
}

// goodLeaves are leaves at the edges of what may be.
func goodLeaves() []sample {
	fit := slices.Concat(times(63, 6), []int{48}) // 18 + 64 + 378 + 48
	return []sample{
		{"the empty one", plain(), 490},
		{"writers alone", made(itl(1, 2, 3, 4)), 490},
		{"the greatest writer", made(itl(most, 0, 0, 0)), 490},
		{"the greatest writer at the end", made(itl(0, 1, most-1, most), "a"), 488},
		{"0 twice, side by side", made(itl(5, 0, 0, 6), "a"), 488},
		{"0 twice, not side by side", made(itl(0, 5, 0, 6), "a"), 488},
		{"0 three times", made(itl(0, 0, 9, 0), "a"), 488},
		{"a slot of 1 byte", plain("a"), 488},
		{"a slot of a nought", plain("\x00"), 488},
		{"slots of noughts", plain("\x00", "", "\x00\x00"), 484},
		{"slots alike", plain("ab", "ab", "ab"), 481},
		{"a slot of 254 bytes", plain(slotsOf(254)...), 235},
		{"a slot of 255 bytes", plain(slotsOf(255)...), 234},
		{"a slot of 255 bytes, and one of 233", plain(slotsOf(255, 233)...), 0},
		{"a slot of 255 bytes, and one of 232", plain(slotsOf(255, 232)...), 1},
		{"a slot of 233 bytes, and one of 255", made(itl(4, 3, 2, 1), slotsOf(233, 255)...), 0},
		{"an empty slot first", plain("", "a"), 487},
		{"63 empty slots ahead of the last", plain(slotsOf(slices.Concat(times(63, 0), []int{1})...)...), 425},
		{"63 empty slots, and one of 255 bytes", plain(slotsOf(slices.Concat(times(63, 0), []int{255})...)...), 171},
		{"empty slots between", made(itl(1, 0, 2, 0), "a", "", "", "bcd", "", "e"), 479},
		{"63 slots", plain(slotsOf(times(63, 1)...)...), 364},
		{"64 slots", plain(slotsOf(times(64, 1)...)...), 362},
		{"64 slots, and no room", made(itl(4, 0, 0, most), slotsOf(fit...)...), 0},
		{"64 slots, some of them empty, and no room", plain(slotsOf(slices.Concat(times(1, 0), times(61, 0), []int{255, 171})...)...), 0},
		{"nine rows", plain(slotsOf(times(9, 52)...)...), 13},
		{"text as long as a page's head", plain(slotsOf(18, 4)...), 466},
	}
}

// badLeaves are leaves that may not be.
func badLeaves() []sample {
	over := slices.Concat(times(63, 6), []int{49})
	l := []sample{
		{"the zero one", api.Leaf{}, -1},
		{"no writers' parts, and a slot", made(nil, "a"), -1},
		{"one part", made(itl(0), "a"), -1},
		{"three parts", made(itl(0, 0, 0), "a"), -1},
		{"three parts of writers", made(itl(1, 2, 3)), -1},
		{"five parts", made(itl(0, 0, 0, 0, 0), "a"), -1},
		{"five parts of writers", made(itl(1, 2, 3, 4, 5), "a"), -1},
		{"eight parts", made(itl(1, 2, 3, 4, 0, 0, 0, 0)), -1},
		{"65 slots", plain(slotsOf(times(65, 1)...)...), -1},
		{"65 slots, all but the last empty", plain(slotsOf(slices.Concat(times(64, 0), []int{1})...)...), -1},
		{"65 empty slots", plain(slotsOf(times(65, 0)...)...), -1},
		{"256 slots", plain(slotsOf(slices.Concat(times(255, 0), []int{1})...)...), -1},
		{"257 slots", plain(slotsOf(slices.Concat(times(256, 0), []int{1})...)...), -1},
		{"a slot of 256 bytes", plain(slotsOf(256)...), -1},
		{"a first slot of 256 bytes", plain(slotsOf(256, 1)...), -1},
		{"a last slot of 256 bytes", plain(slotsOf(1, 256)...), -1},
		{"a slot of 257 bytes", plain(slotsOf(1, 257, 1)...), -1},
		{"a slot of 489 bytes", plain(slotsOf(489)...), -1},
		{"a slot of 100000 bytes", plain(slotsOf(100000)...), -1},
		{"an empty slot alone", plain(""), -1},
		{"a last slot that is empty", plain("a", ""), -1},
		{"last slots that are empty", made(itl(1, 2, 3, 4), "a", "", "b", "", ""), -1},
		{"64 slots, the last one empty", plain(slotsOf(slices.Concat(times(63, 1), []int{0})...)...), -1},
		{"a need of 509", plain(slotsOf(255, 234)...), -1},
		{"a need of 509, of 64 slots", made(itl(1, 2, 3, 4), slotsOf(over...)...), -1},
		{"a need of 509, of three slots", plain(slotsOf(200, 200, 88)...), -1},
		{"a need of 509 by an empty slot", plain(slotsOf(0, 255, 233)...), -1},
		{"a need of 530", plain(slotsOf(255, 255)...), -1},
		{"a need of 16402", plain(slotsOf(times(64, 255)...)...), -1},
	}
	for i := range 4 {
		for _, w := range []int{-1, -2, -most, -most - 1, math.MinInt, most + 1, most + 2, 1 << 32, 1<<32 + 1, math.MaxInt} {
			bad := itl(0, 0, 0, 0)
			bad[i] = w
			l = append(l, sample{fmt.Sprintf("part %d of writers is %d", i, w), made(bad, "a", "", "b"), -1})
			bad = itl(11, 12, 13, 14)
			bad[i] = w
			l = append(l, sample{fmt.Sprintf("part %d of four writers is %d", i, w), made(bad), -1})
		}
		for j := range i {
			for _, w := range []int{1, 2, most} {
				bad := itl(0, 0, 0, 0)
				bad[i], bad[j] = w, w
				l = append(l, sample{fmt.Sprintf("writer %d twice, in %d and %d", w, j, i), made(bad, "a"), -1})
			}
		}
	}
	return l
}

// Lf1, Lf2, Lf3: of a leaf that may not be all tell ErrArg, with zeros (Room -1); that comes ahead of all else that may be wrong.
func TestBadLeaves(t *testing.T) {
	rows := []string{"", "x", text(1, 255), text(1, 256)}
	for _, s := range badLeaves() {
		if e := Check(s.l); e != api.ErrArg {
			t.Errorf("%s: Check: error %d", s.name, e)
		}
		if n := Room(s.l); n != -1 {
			t.Errorf("%s: Room = %d", s.name, n)
		}
		if b, e := Encode(s.l); len(b) != 0 || e != api.ErrArg {
			t.Errorf("%s: Encode = %d bytes, error %d", s.name, len(b), e)
		}
		for _, slot := range []int{math.MinInt, -1, 0, 1, 2, 3, 62, 63, 64, 65, math.MaxInt} {
			for _, r := range rows {
				wantSet(t, s.l, slot, r, api.Leaf{}, api.ErrArg)
			}
			wantDrop(t, s.l, slot, api.Leaf{}, api.ErrArg)
		}
		for _, r := range rows {
			wantInsert(t, s.l, r, api.Leaf{}, 0, api.ErrArg)
		}
		for _, w := range slices.Concat(itl(-1, 0, 1, 9, most, most+1), s.l.Itl) {
			wantJoin(t, s.l, w, nil, api.Leaf{}, api.ErrArg)
			wantJoin(t, s.l, w, s.l.Itl, api.Leaf{}, api.ErrArg)
		}
	}
}

// Lf1, Lf4: Check, Room, Encode and Decode of leaves that may be.
func TestGoodLeaves(t *testing.T) {
	for _, s := range goodLeaves() {
		if e := Check(s.l); e != api.OK {
			t.Errorf("%s: Check: error %d", s.name, e)
		}
		if n := Room(s.l); n != s.room {
			t.Errorf("%s: Room = %d, not %d", s.name, n, s.room)
		}
		b, e := Encode(s.l)
		if e != api.OK || !bytes.Equal(b, pageOf(s.l)) {
			t.Fatalf("%s: Encode = %X, error %d, not %X", s.name, b, e, pageOf(s.l))
		}
		wantDecode(t, b, s.l, api.OK, s.name)
	}
}

// Lf1: the empty leaf has no slots and no writers; its room is 490.
func TestEmptyLeaf(t *testing.T) {
	l, e := Decode(make([]byte, 512))
	if e != api.OK || !slices.Equal(l.Itl, itl(0, 0, 0, 0)) || len(l.Slots) != 0 {
		t.Fatalf("Decode of an empty page = %s, error %d", tell(l), e)
	}
	if Check(l) != api.OK || Room(l) != 490 {
		t.Errorf("Check = %d, Room = %d", Check(l), Room(l))
	}
	b, e := Encode(l)
	if e != api.OK || !bytes.Equal(b[:6], []byte{0x04, 0xE2, 0x5E, 0x16, 'L', 0}) || bytes.Count(b[5:], []byte{0}) != 507 {
		t.Errorf("Encode of the empty leaf = %X, error %d", b, e)
	}
	wantDecode(t, b, l, api.OK, "the empty leaf's page")
}

// Lf1: a page to the byte.
func TestPage(t *testing.T) {
	l := made(itl(1, 0, 0x01020304, most), "a", "", "bc")
	b, e := Encode(l)
	head := "\xBA\x14\x33\xF2" + "L" + "\x00\x00\x00\x01" + "\x00\x00\x00\x00" + "\x01\x02\x03\x04" + "\x7F\xFF\xFF\xFF" + "\x03" + "\x01a" + "\x00" + "\x02bc"
	if e != api.OK || string(b) != head+strings.Repeat("\x00", 512-len(head)) {
		t.Errorf("Encode = %X, error %d", b, e)
	}
	wantDecode(t, []byte(head+strings.Repeat("\x00", 512-len(head))), l, api.OK, "a page")
}

// Lf1: all writers and slots of a few parts are held against the chapter's words.
func TestCheckAll(t *testing.T) {
	told := map[api.Errno]int{}
	check := func(l api.Leaf) {
		want := slowCheck(l)
		told[want]++
		if e := Check(l); e != want {
			t.Fatalf("Check(%s) = %d, not %d", tell(l), e, want)
		}
		room := -1
		if want == api.OK {
			room = 508 - slowNeed(l)
		}
		if n := Room(l); n != room {
			t.Fatalf("Room(%s) = %d, not %d", tell(l), n, room)
		}
	}
	for n := range 6 {
		each(n, []int{-1, 0, 1, 2, most, most + 1}, func(w []int) { check(made(w, "a")) })
	}
	for n := range 5 {
		each(n, []int{0, 1, 2, 100, 232, 233, 255, 256}, func(sizes []int) { check(plain(slotsOf(sizes...)...)) })
	}
	for n := 55; n <= 70; n++ {
		for size := range 9 {
			for last := range 60 {
				check(plain(slotsOf(append(times(n-1, size), last)...)...))
			}
		}
	}
	if told[api.OK] < 1000 || told[api.ErrArg] < 1000 {
		t.Errorf("told: %v", told)
	}
}

// each goes through all lists of n numbers out of these.
func each(n int, of []int, do func(l []int)) {
	l := make([]int, n)
	var fill func(i int)
	fill = func(i int) {
		if i == n {
			do(l)
			return
		}
		for _, x := range of {
			l[i] = x
			fill(i + 1)
		}
	}
	fill(0)
}

// Lf1: Decode of other than 512 bytes, be they noughts or a leaf's page with more or less behind it.
func TestDecodeOfOtherSizes(t *testing.T) {
	for _, page := range [][]byte{make([]byte, 512), pageOf(plain("a")), pageOf(plain(slotsOf(255, 233)...)), bytes.Repeat([]byte{1}, 512)} {
		for _, n := range []int{0, 1, 3, 4, 5, 22, 256, 508, 510, 511} {
			wantDecode(t, page[:n], api.Leaf{}, api.ErrArg, fmt.Sprintf("%d bytes", n))
		}
		for _, n := range []int{1, 2, 4, 512, 65024} {
			wantDecode(t, append(page[:512:512], make([]byte, n)...), api.Leaf{}, api.ErrArg, fmt.Sprintf("%d bytes", 512+n))
		}
	}
	wantDecode(t, nil, api.Leaf{}, api.ErrArg, "nil")
}

// Lf1: a page of which one bit is turned has another sum, be it a leaf's or one of noughts.
func TestDecodeOfOtherSums(t *testing.T) {
	for _, page := range [][]byte{make([]byte, 512), pageOf(plain()), pageOf(made(itl(1, 2, 3, 4), "a", "", "bc"))} {
		for bit := range 8 * 512 {
			b := bytes.Clone(page)
			b[bit/8] ^= 1 << (bit % 8)
			wantDecode(t, b, api.Leaf{}, api.ErrSum, fmt.Sprintf("bit %d turned", bit))
		}
	}
	for _, b := range [][]byte{
		bytes.Repeat([]byte{255}, 512),
		append(make([]byte, 4), pageOf(plain("a"))[4:]...),
		append(pageOf(plain("a"))[:4:4], pageOf(plain("b"))[4:]...),
		append(pageOf(plain("a"))[:4:4], make([]byte, 508)...),
		append(pageOf(plain("a"))[4:], 0, 0, 0, 0),
	} {
		wantDecode(t, b, api.Leaf{}, api.ErrSum, fmt.Sprintf("%.8X..", b))
	}
}

// Lf1: a sum of the items alone, without the noughts, is another one; of bytes that are no leaf's, too, the sum is told first.
func TestDecodeTellsSumFirst(t *testing.T) {
	short := items(1, plain("a"))
	s := slowSum(short)
	b := append([]byte{byte(s >> 24), byte(s >> 16), byte(s >> 8), byte(s)}, short...)
	wantDecode(t, append(b, make([]byte, 512-len(b))...), api.Leaf{}, api.ErrSum, "the sum of the items alone")
	b = sealed([]byte("M"))
	b[511]++
	wantDecode(t, b, api.Leaf{}, api.ErrSum, "no leaf's page, and another sum")
}

// noPages are bytes that, sealed, are no leaf's page, with names.
func noPages() map[string][]byte {
	one := plain("a")
	long := func(count int, sizes ...int) []byte { return items(count, plain(slotsOf(sizes...)...)) }
	l := map[string][]byte{
		"noughts":                      {},
		"another first byte":           append([]byte{75}, items(1, one)[1:]...),
		"another first byte, above":    append([]byte{77}, items(1, one)[1:]...),
		"a small first byte":           append([]byte{'l'}, items(1, one)[1:]...),
		"a first byte of 0":            append([]byte{0}, items(1, one)[1:]...),
		"no first byte":                items(1, one)[1:],
		"a byte ahead":                 append([]byte{0}, items(1, one)...),
		"65 slots":                     long(65, times(65, 1)...),
		"65 slots, the last not empty": long(65, append(times(64, 0), 1)...),
		"255 slots":                    long(255, append(times(254, 0), 1)...),
		"255 empty slots":              long(255),
		"more slots than there are":    long(2, 1),
		"64 slots of one":              long(64, 1),
		"fewer slots than there are":   long(1, 1, 1),
		"no slots where there is one":  long(0, 1),
		"a last slot that is empty":    long(1, 0),
		"last slots that are empty":    long(4, 1, 2, 0, 0),
		"64 slots, the last one empty": long(64, append(times(63, 1), 0)...),
		"a byte behind one slot":       append(items(1, one), 1),
		"a byte behind no slots":       append(items(0, plain()), 1),
		"a far byte":                   append(slices.Concat(items(1, one), make([]byte, 100)), 1),
		"the page's last byte":         append(slices.Concat(items(1, one), make([]byte, 507-len(items(1, one)))), 255),
		"a slot behind the page":       append(long(2, 255), 234),
		"a slot far behind the page":   append(long(2, 255), 255),
		"a slot just behind the page":  append(long(3, 255, 231), 2),
		"slots that leave no count":    long(3, 255, 233),
		"a byte behind the slots":      append(long(2, 255, 231), 0, 1),
		"all bits":                     bytes.Repeat([]byte{255}, 508),
		"L alone":                      bytes.Repeat([]byte{'L'}, 508),
	}
	for i := range 4 {
		for _, w := range []int{most + 1, most + 2, 1<<32 - 1} {
			bad := itl(0, 0, 0, 0)
			bad[i] = w
			l[fmt.Sprintf("part %d of writers is %d", i, w)] = items(1, made(bad, "a"))
		}
		for j := range i {
			bad := itl(7, 8, 9, 10)
			bad[j] = bad[i]
			l[fmt.Sprintf("a writer twice, in %d and %d", j, i)] = items(1, made(bad, "a"))
		}
	}
	return l
}

// Lf1: sealed bytes that are no leaf's page.
func TestDecodeOfNoPages(t *testing.T) {
	for name, b := range noPages() {
		wantDecode(t, sealed(b), api.Leaf{}, api.ErrText, name)
	}
}

// wantSlowDecode holds Decode against the chapter's words; what is decoded is that page alone.
func wantSlowDecode(t *testing.T, b []byte, told map[api.Errno]int) {
	t.Helper()
	want, why := slowDecode(b)
	told[why]++
	wantDecode(t, b, want, why, fmt.Sprintf("%X", b))
	if why != api.OK {
		return
	}
	if again, e := Encode(want); e != api.OK || !bytes.Equal(again, b) {
		t.Fatalf("Encode(%s) = %X, error %d, not %X", tell(want), again, e, b)
	}
}

// Lf1, Lf4: each byte of the items, and some behind them, is made each other one, and sealed.
func TestDecodeOfEachByte(t *testing.T) {
	told := map[api.Errno]int{}
	for _, l := range []api.Leaf{plain(), plain("a"), made(itl(1, 2, 0, 0), "a", "", "bc"), plain("\x00", "\x01\x00", "", "\x01")} {
		whole := items(len(l.Slots), l)
		for i := range len(whole) + 2 {
			for c := range 256 {
				b := append(bytes.Clone(whole), 0, 0)
				b[i] = byte(c)
				wantSlowDecode(t, sealed(b), told)
			}
		}
	}
	if told[api.OK] < 1000 || told[api.ErrText] < 1000 {
		t.Errorf("told: %v", told)
	}
}

// Lf1: strewn bytes, sealed.
func TestDecodeOfStrewn(t *testing.T) {
	r := rand.New(rand.NewPCG(8, 1))
	told := map[api.Errno]int{}
	for range 5000 {
		b := items(r.IntN(8), plain())
		for i := 1; i < 17; i++ {
			b[i] = byte(r.IntN(3) * r.IntN(2))
		}
		for range r.IntN(40) {
			b = append(b, byte(r.IntN(4)))
		}
		wantSlowDecode(t, sealed(b), told)
		wantSlowDecode(t, sealed(append(b, byte(r.IntN(256)))), told)
	}
	if told[api.OK] < 200 || told[api.ErrText] < 1000 {
		t.Errorf("told: %v", told)
	}
}

// Lf1: leaves are alike that have the same writers and the same slots, in the same order.
func TestSame(t *testing.T) {
	l := made(itl(1, 0, 3, 4), "a", "", "bc", "d")
	other := []api.Leaf{
		made(itl(2, 0, 3, 4), "a", "", "bc", "d"),
		made(itl(1, 0, 3, 5), "a", "", "bc", "d"),
		made(itl(1, 0, 4, 3), "a", "", "bc", "d"),
		made(itl(1, 3, 0, 4), "a", "", "bc", "d"),
		made(itl(1, 0, 3), "a", "", "bc", "d"),
		made(itl(1, 0, 3, 4, 0), "a", "", "bc", "d"),
		made(nil, "a", "", "bc", "d"),
		made(itl(1, 0, 3, 4), "b", "", "bc", "d"),
		made(itl(1, 0, 3, 4), "a", "\x00", "bc", "d"),
		made(itl(1, 0, 3, 4), "a", "", "bd", "d"),
		made(itl(1, 0, 3, 4), "a", "", "cc", "d"),
		made(itl(1, 0, 3, 4), "a", "", "b", "d"),
		made(itl(1, 0, 3, 4), "a", "", "bcd", "d"),
		made(itl(1, 0, 3, 4), "a", "", "bc", "e"),
		made(itl(1, 0, 3, 4), "a", "", "bc", ""),
		made(itl(1, 0, 3, 4), "a", "", "bc"),
		made(itl(1, 0, 3, 4), "a", "", "bc", "d", ""),
		made(itl(1, 0, 3, 4), "a", "", "bc", "d", "d"),
		made(itl(1, 0, 3, 4), "a", "bc", "", "d"),
		made(itl(1, 0, 3, 4), "a", "bc", "d"),
		made(itl(1, 0, 3, 4), "", "bc", "d"),
		made(itl(1, 0, 3, 4), "d", "", "bc", "a"),
		made(itl(1, 0, 3, 4)),
		{},
	}
	for _, o := range other {
		if Same(l, o) || Same(o, l) {
			t.Errorf("%s is alike %s", tell(o), tell(l))
		}
	}
	for _, o := range append(other, l) {
		if !Same(o, o) || !Same(o, twin(o)) || !Same(twin(o), o) {
			t.Errorf("%s is not alike itself", tell(o))
		}
	}
	for _, s := range slices.Concat(goodLeaves(), badLeaves()) {
		if !Same(s.l, twin(s.l)) {
			t.Errorf("%s: not alike itself", s.name)
		}
	}
}

// Lf1: to Same nil and the empty list are the same, and spare room is of no account.
func TestSameOfEmpty(t *testing.T) {
	a := api.Leaf{Itl: itl(0, 0, 0, 0), Slots: [][]byte{nil, []byte("x")}}
	b := api.Leaf{Itl: itl(0, 0, 0, 0), Slots: [][]byte{{}, []byte("x")}}
	if !Same(a, b) || !Same(b, a) {
		t.Error("an empty slot and nil are not the same")
	}
	if !Same(api.Leaf{}, api.Leaf{Itl: []int{}, Slots: [][]byte{}}) || !Same(plain(), api.Leaf{Itl: itl(0, 0, 0, 0), Slots: [][]byte{}}) {
		t.Error("nil and the empty list are not the same")
	}
	c := api.Leaf{Itl: itl(0, 0, 0, 0, 1)[:4], Slots: [][]byte{{}, []byte("xy")[:1], []byte("z")}[:2]}
	if !Same(a, c) || !Same(c, a) {
		t.Error("what lies behind the lists counts")
	}
}

// Lf2: Set where a row stands: that slot, and none but that.
func TestSet(t *testing.T) {
	w := itl(4, 0, 2, 0)
	l := made(w, "a", "", "bc", "d")
	wantSet(t, l, 0, "x", made(w, "x", "", "bc", "d"), api.OK)
	wantSet(t, l, 0, "a", l, api.OK)
	wantSet(t, l, 2, "x", made(w, "a", "", "x", "d"), api.OK)
	wantSet(t, l, 2, "xyz", made(w, "a", "", "xyz", "d"), api.OK)
	wantSet(t, l, 3, text(3, 255), made(w, "a", "", "bc", text(3, 255)), api.OK)
	wantSet(t, l, 3, "\x00", made(w, "a", "", "bc", "\x00"), api.OK)
	wantSet(t, plain("a"), 0, text(3, 255), plain(text(3, 255)), api.OK)
	wantSet(t, plain(slotsOf(255)...), 0, "b", plain("b"), api.OK)
}

// strays are slots below 0, and behind any last one.
func strays() []int { return []int{math.MinInt, -65, -2, -1, 64, 65, 256, 1 << 32, math.MaxInt} }

// Lf2: Set of a slot that is empty, or that there is not, tells ErrNone, ahead of what may be wrong with the row.
func TestSetOfNone(t *testing.T) {
	rows := []string{"", "x", text(1, 255), text(1, 256), text(1, 600)}
	for _, s := range goodLeaves() {
		for _, r := range rows {
			for _, slot := range append(strays(), len(s.l.Slots), len(s.l.Slots)+1) {
				wantSet(t, s.l, slot, r, s.l, api.ErrNone)
			}
			for i, x := range s.l.Slots {
				if len(x) == 0 {
					wantSet(t, s.l, i, r, s.l, api.ErrNone)
				}
			}
		}
	}
}

// Lf2: Set of a row that has not 1 to 255 bytes tells ErrArg, also where there is no room.
func TestSetOfNoRow(t *testing.T) {
	for _, l := range []api.Leaf{plain("a"), made(itl(1, 2, 3, 4), "a", "", "b"), plain(slotsOf(255, 233)...)} {
		for _, n := range []int{0, 256, 257, 489, 490, 512, 65536} {
			wantSet(t, l, 0, text(1, n), l, api.ErrArg)
			wantSet(t, l, len(l.Slots)-1, text(1, n), l, api.ErrArg)
		}
		got, e := Set(l, 0, nil)
		if e != api.ErrArg || !alike(got, l) {
			t.Errorf("Set(%s, 0, nil) = %s, error %d", tell(l), tell(got), e)
		}
	}
}

// Lf2: Set where there is just room, and just none: what stood there gives its own.
func TestSetForRoom(t *testing.T) {
	full := plain(slotsOf(255, 233)...)
	wantSet(t, full, 1, text(9, 233), plain(text(1, 255), text(9, 233)), api.OK)
	wantSet(t, full, 1, text(9, 234), full, api.ErrPage)
	wantSet(t, full, 1, text(9, 255), full, api.ErrPage)
	wantSet(t, full, 1, "x", plain(text(1, 255), "x"), api.OK)
	wantSet(t, full, 0, text(9, 255), plain(text(9, 255), text(8, 233)), api.OK)
	one := made(itl(9, 0, 0, 1), slotsOf(255, 230)...) // 3 bytes are left
	wantSet(t, one, 1, text(9, 233), made(itl(9, 0, 0, 1), text(1, 255), text(9, 233)), api.OK)
	wantSet(t, one, 1, text(9, 234), one, api.ErrPage)
	many := plain(slotsOf(times(64, 1)...)...) // 362 bytes are left
	for slot := range 64 {
		want := twin(many)
		want.Slots[slot] = []byte(text(9, 255))
		wantSet(t, many, slot, text(9, 255), want, api.OK)
	}
	tight := plain(slotsOf(slices.Concat(times(63, 6), []int{48})...)...)
	wantSet(t, tight, 0, text(9, 6), plain(slices.Concat([]string{text(9, 6)}, slotsOf(slices.Concat(times(63, 6), []int{48})...)[1:])...), api.OK)
	wantSet(t, tight, 0, text(9, 7), tight, api.ErrPage)
	wantSet(t, tight, 63, text(9, 49), tight, api.ErrPage)
}

// Lf2: Drop of each slot: it is empty, and no slots at the end are.
func TestDrop(t *testing.T) {
	w := itl(0, 4, 0, 2)
	l := made(w, "a", "b", "c")
	wantDrop(t, l, 0, made(w, "", "b", "c"), api.OK)
	wantDrop(t, l, 1, made(w, "a", "", "c"), api.OK)
	wantDrop(t, l, 2, made(w, "a", "b"), api.OK)
	wantDrop(t, plain("a"), 0, plain(), api.OK)
	wantDrop(t, made(w, "a"), 0, made(w), api.OK)
	wantDrop(t, made(w, "a", "", "c"), 2, made(w, "a"), api.OK)
	wantDrop(t, made(w, "a", "", "", "", "c"), 4, made(w, "a"), api.OK)
	wantDrop(t, made(w, "", "", "c"), 2, made(w), api.OK)
	wantDrop(t, made(w, "", "b", "", "d"), 3, made(w, "", "b"), api.OK)
	wantDrop(t, made(w, "", "b", "", "d"), 1, made(w, "", "", "", "d"), api.OK)
	wantDrop(t, plain(slotsOf(slices.Concat(times(63, 0), []int{1})...)...), 63, plain(), api.OK)
	wantDrop(t, plain(slotsOf(times(64, 1)...)...), 63, plain(slotsOf(times(63, 1)...)...), api.OK)
	wantDrop(t, plain(slotsOf(255, 233)...), 0, plain("", text(8, 233)), api.OK)
	wantDrop(t, plain(slotsOf(255, 233)...), 1, plain(text(1, 255)), api.OK)
}

// Lf2: Drop of a slot that is empty, or that there is not.
func TestDropOfNone(t *testing.T) {
	for _, s := range goodLeaves() {
		for _, slot := range append(strays(), len(s.l.Slots), len(s.l.Slots)+1) {
			wantDrop(t, s.l, slot, s.l, api.ErrNone)
		}
		for i, x := range s.l.Slots {
			if len(x) == 0 {
				wantDrop(t, s.l, i, s.l, api.ErrNone)
			}
		}
	}
}

// Lf2: Insert goes into the first empty slot, or into one more.
func TestInsert(t *testing.T) {
	w := itl(0, 4, 0, 2)
	wantInsert(t, plain(), "a", plain("a"), 0, api.OK)
	wantInsert(t, plain(), text(1, 255), plain(text(1, 255)), 0, api.OK)
	wantInsert(t, made(w, "a"), "b", made(w, "a", "b"), 1, api.OK)
	wantInsert(t, made(w, "a", "b"), "a", made(w, "a", "b", "a"), 2, api.OK)
	wantInsert(t, made(w, "", "b"), "x", made(w, "x", "b"), 0, api.OK)
	wantInsert(t, made(w, "a", "", "c", "", "e"), "xyz", made(w, "a", "xyz", "c", "", "e"), 1, api.OK)
	wantInsert(t, made(w, "a", "b", "", "d"), text(3, 255), made(w, "a", "b", text(3, 255), "d"), 2, api.OK)
	wantInsert(t, plain("\x00"), "\x00", plain("\x00", "\x00"), 1, api.OK)
}

// Lf2: Insert of 64 slots: none more, but an empty one is taken.
func TestInsertOf64(t *testing.T) {
	l := plain(slotsOf(times(63, 1)...)...)
	wantInsert(t, l, "x", plain(append(slotsOf(times(63, 1)...), "x")...), 63, api.OK)
	l = plain(slotsOf(times(64, 1)...)...)
	wantInsert(t, l, "x", l, -1, api.ErrPage)
	wantInsert(t, l, "", l, -1, api.ErrArg)
	wantInsert(t, l, text(1, 256), l, -1, api.ErrArg)
	for _, slot := range []int{0, 1, 62} {
		holed := twin(l)
		holed.Slots[slot] = nil
		want := twin(l)
		want.Slots[slot] = []byte("x")
		wantInsert(t, holed, "x", want, slot, api.OK)
		want.Slots[slot] = []byte(text(2, 255))
		wantInsert(t, holed, text(2, 255), want, slot, api.OK)
	}
	sparse := slotsOf(slices.Concat(times(63, 0), []int{1})...)
	want := slices.Clone(sparse)
	want[0] = "x"
	wantInsert(t, plain(sparse...), "x", plain(want...), 0, api.OK)
}

// Lf2: Insert of a row that has not 1 to 255 bytes tells ErrArg, also where there is no room.
func TestInsertOfNoRow(t *testing.T) {
	for _, s := range goodLeaves() {
		for _, n := range []int{0, 256, 257, 489, 490, 512, 65536} {
			wantInsert(t, s.l, text(1, n), s.l, -1, api.ErrArg)
		}
		if got, slot, e := Insert(s.l, nil); e != api.ErrArg || slot != -1 || !alike(got, s.l) {
			t.Errorf("%s: Insert of nil = %s, %d, error %d", s.name, tell(got), slot, e)
		}
	}
}

// Lf2: Insert where there is just room, and just none: one more slot takes a byte, an empty one has it already.
func TestInsertForRoom(t *testing.T) {
	l := plain(slotsOf(255)...) // 234 bytes are left
	wantInsert(t, l, text(9, 233), plain(text(1, 255), text(9, 233)), 1, api.OK)
	wantInsert(t, l, text(9, 234), l, -1, api.ErrPage)
	wantInsert(t, l, text(9, 255), l, -1, api.ErrPage)
	l = made(itl(1, 2, 3, 4), "", text(1, 255)) // 233 bytes are left
	wantInsert(t, l, text(9, 233), made(itl(1, 2, 3, 4), text(9, 233), text(1, 255)), 0, api.OK)
	wantInsert(t, l, text(9, 234), l, -1, api.ErrPage)
	l = plain(slotsOf(255, 231)...) // 2 are left
	wantInsert(t, l, "x", plain(text(1, 255), text(8, 231), "x"), 2, api.OK)
	wantInsert(t, l, "xy", l, -1, api.ErrPage)
	l = plain(slotsOf(255, 232)...) // 1 is left
	wantInsert(t, l, "x", l, -1, api.ErrPage)
	l = plain(slotsOf(255, 0, 231)...) // 1 is left
	wantInsert(t, l, "x", plain(text(1, 255), "x", text(15, 231)), 1, api.OK)
	wantInsert(t, l, "xy", l, -1, api.ErrPage)
	for _, s := range goodLeaves() {
		if s.room == 0 {
			wantInsert(t, s.l, "x", s.l, -1, api.ErrPage)
		}
	}
}

// Lf2: a leaf has room for nine rows of 52 bytes, and not for ten.
func TestNineRows(t *testing.T) {
	l := plain()
	for i := range 9 {
		next, slot, e := Insert(l, []byte(text(i, 52)))
		if e != api.OK || slot != i {
			t.Fatalf("row %d: slot %d, error %d", i, slot, e)
		}
		l = next
	}
	wantInsert(t, l, text(9, 52), l, -1, api.ErrPage)
}

// The chapter's example.
func TestExample(t *testing.T) {
	l, a, e1 := Insert(plain(), []byte("a"))
	l, b, e2 := Insert(l, []byte("b"))
	l, e3 := Drop(l, 0)
	l, c, e4 := Insert(l, []byte("c"))
	if a != 0 || b != 1 || c != 0 || e1 != api.OK || e2 != api.OK || e3 != api.OK || e4 != api.OK {
		t.Errorf("slots %d, %d, %d; errors %d, %d, %d, %d", a, b, c, e1, e2, e3, e4)
	}
	if !alike(l, plain("c", "b")) {
		t.Errorf("%s", tell(l))
	}
}

// Lf3: a writer that is none.
func TestJoinOfNobody(t *testing.T) {
	for _, l := range []api.Leaf{plain(), made(itl(1, 2, 3, 4), "a"), made(itl(0, 2, 0, most), "", "a")} {
		for _, w := range []int{0, -1, -2, -most, math.MinInt, most + 1, most + 2, 1 << 32, 1<<32 + 1, math.MaxInt} {
			wantJoin(t, l, w, nil, l, api.ErrArg)
			wantJoin(t, l, w, l.Itl, l, api.ErrArg)
			wantJoin(t, l, w, itl(w), l, api.ErrArg)
		}
	}
}

// Lf3: Join at the edges.
func TestJoin(t *testing.T) {
	all := itl(1, 2, 3, 4, 5, 6, 7, 8, most)
	on := func(w ...int) api.Leaf { return made(w, "a", "", "b") }
	wantJoin(t, plain(), 1, nil, made(itl(1, 0, 0, 0)), api.OK)
	wantJoin(t, plain(), most, nil, made(itl(most, 0, 0, 0)), api.OK)
	wantJoin(t, plain(), most, all, made(itl(most, 0, 0, 0)), api.OK)
	for _, w := range []int{1, 2, 3, 4} { // it is there already: nobody's place is taken, live or not
		wantJoin(t, on(1, 2, 3, 4), w, all, on(1, 2, 3, 4), api.OK)
		wantJoin(t, on(1, 2, 3, 4), w, nil, on(1, 2, 3, 4), api.OK)
	}
	wantJoin(t, on(0, 0, 0, 7), 7, nil, on(0, 0, 0, 7), api.OK) // not in another place too
	wantJoin(t, on(0, 7, 0, 0), 7, all, on(0, 7, 0, 0), api.OK)
	wantJoin(t, on(0, 2, 0, 4), 5, all, on(5, 2, 0, 4), api.OK)
	wantJoin(t, on(1, 0, 0, 4), 5, all, on(1, 5, 0, 4), api.OK)
	wantJoin(t, on(1, 2, 3, 0), 5, all, on(1, 2, 3, 5), api.OK)
	wantJoin(t, on(1, 2, 3, 0), 5, nil, on(1, 2, 3, 5), api.OK) // ahead of those that live no more
	wantJoin(t, on(1, 0, 3, 4), 5, itl(0), on(1, 5, 3, 4), api.OK)
	wantJoin(t, on(1, 2, 3, 4), 5, nil, on(5, 2, 3, 4), api.OK)
	wantJoin(t, on(4, 3, 2, 1), 5, nil, on(5, 3, 2, 1), api.OK) // the first one, not the least
	wantJoin(t, on(1, 2, 3, 4), 5, itl(1), on(1, 5, 3, 4), api.OK)
	wantJoin(t, on(1, 2, 3, 4), 5, itl(4, 2, 1), on(1, 2, 5, 4), api.OK)
	wantJoin(t, on(1, 2, 3, 4), 5, itl(3, 2, 1, 9, 5), on(1, 2, 3, 5), api.OK)
	wantJoin(t, on(1, 2, 3, 4), 5, all, on(1, 2, 3, 4), api.ErrItl)
	wantJoin(t, on(1, 2, 3, 4), 5, itl(4, 3, 2, 1), on(1, 2, 3, 4), api.ErrItl)
	wantJoin(t, on(1, 2, 3, most), most-1, itl(most, 9, 3, 2, 2, 1), on(1, 2, 3, most), api.ErrItl)
	wantJoin(t, on(1, 2, 3, most), most-1, itl(most-1, 3, 2, 1), on(1, 2, 3, most-1), api.OK)
	wantJoin(t, on(1, 2, 3, 4), 5, itl(-1, -2, math.MaxInt, 0), on(5, 2, 3, 4), api.OK)
}

// Lf3: all writers' parts of a few, and who of them lives, are held against the chapter's words.
func TestJoinAll(t *testing.T) {
	told := map[api.Errno]int{}
	each(4, []int{0, 1, 2, 3, 4, 5}, func(w []int) {
		l := made(w, "a")
		if slowCheck(l) != api.OK {
			return
		}
		for set := range 64 {
			var live []int
			for x := range 6 {
				if set>>x&1 == 1 {
					live = append(live, 5-x)
				}
			}
			for writer := range 7 {
				want, why := slowJoin(l, writer, live)
				told[why]++
				wantJoin(t, l, writer, live, want, why)
			}
		}
	})
	if told[api.OK] < 1000 || told[api.ErrItl] < 100 || told[api.ErrArg] < 1000 {
		t.Errorf("told: %v", told)
	}
}

// wantByTheWords holds what Set, Drop and Insert tell of a leaf, a slot and a row against the chapter's words; the errors are counted.
func wantByTheWords(t *testing.T, l api.Leaf, slot int, row string, told map[api.Errno]int) {
	t.Helper()
	want, why := slowSet(l, slot, row)
	told[why]++
	wantSet(t, l, slot, row, want, why)
	want, why = slowDrop(l, slot)
	told[why]++
	wantDrop(t, l, slot, want, why)
	want, at, why := slowInsert(l, row)
	told[why]++
	wantInsert(t, l, row, want, at, why)
}

// Lf2: all leaves of up to four slots of a few sizes, each slot, and rows of sizes at all edges.
func TestByTheWords(t *testing.T) {
	told := map[api.Errno]int{}
	for n := range 5 {
		each(n, []int{0, 1, 2, 100, 232, 255}, func(sizes []int) {
			l := plain(slotsOf(sizes...)...)
			if slowCheck(l) != api.OK {
				return
			}
			room := 508 - slowNeed(l)
			for slot := -1; slot <= n; slot++ {
				had := 0
				if slot >= 0 && slot < n {
					had = sizes[slot]
				}
				for _, size := range []int{0, 1, 255, 256, room - 1, room, room + 1, room + had - 1, room + had, room + had + 1} {
					wantByTheWords(t, l, slot, text(5, max(size, 0)), told)
				}
			}
		})
	}
	for _, e := range []api.Errno{api.OK, api.ErrNone, api.ErrArg, api.ErrPage} {
		if told[e] < 100 {
			t.Errorf("told: %v", told)
		}
	}
}

// strewn is a leaf of up to 64 slots that may be.
func strewn(r *rand.Rand) api.Leaf {
	l := plain()
	for i := range l.Itl {
		l.Itl[i] = r.IntN(2) * (i + 1 + 4*r.IntN(most/8))
	}
	count := 1 + r.IntN(64)
	size := []int{2, 7, 60, 256}[r.IntN(4)]
	for len(l.Slots) < count {
		l.Slots = append(l.Slots, []byte(text(r.IntN(256), r.IntN(size)*r.IntN(2))))
	}
	for slowCheck(l) != api.OK {
		l.Slots = l.Slots[:len(l.Slots)-1]
	}
	return l
}

// Lf4: Decode of Encode is the leaf; Lf2: strewn leaves go by the chapter's words.
func TestStrewn(t *testing.T) {
	r := rand.New(rand.NewPCG(8, 2))
	told := map[api.Errno]int{}
	slots := map[int]int{}
	for range 3000 {
		l := strewn(r)
		slots[len(l.Slots)]++
		b, e := Encode(l)
		if e != api.OK || !bytes.Equal(b, pageOf(l)) {
			t.Fatalf("Encode(%s) = %X, error %d", tell(l), b, e)
		}
		wantDecode(t, b, l, api.OK, tell(l))
		for range 4 {
			wantByTheWords(t, l, r.IntN(67)-1, text(r.IntN(256), r.IntN(258)), told)
			if n := len(l.Slots); n > 0 {
				wantByTheWords(t, l, r.IntN(n), text(r.IntN(256), 1+r.IntN(6)), told)
			}
		}
	}
	if slots[64] < 5 || slots[0] < 5 || told[api.ErrPage] < 100 || told[api.OK] < 1000 {
		t.Errorf("slots %v, told %v", slots, told)
	}
}

// Lf2, Lf3, Lf4: acts one behind the other, each on what the one ahead told, through its page and back now and then.
func TestOneBehindTheOther(t *testing.T) {
	r := rand.New(rand.NewPCG(8, 3))
	deepest, full := 0, 0
	for run := range 60 {
		size := []int{3, 8, 60, 258}[run%4]
		l, want := plain(), plain()
		for range 300 {
			row := text(r.IntN(256), r.IntN(size))
			var e, why api.Errno
			switch r.IntN(8) {
			case 0:
				slot := r.IntN(len(l.Slots)+2) - 1
				l, e = Drop(l, slot)
				want, why = slowDrop(want, slot)
			case 1:
				slot := r.IntN(len(l.Slots)+2) - 1
				l, e = Set(l, slot, []byte(row))
				want, why = slowSet(want, slot, row)
			case 2:
				writer, live := r.IntN(8), r.Perm(8)[:r.IntN(8)]
				l, e = Join(l, writer, live)
				want, why = slowJoin(want, writer, live)
			case 3:
				b, _ := Encode(l)
				l, e = Decode(b)
			default:
				var at, there int
				l, at, e = Insert(l, []byte(row))
				want, there, why = slowInsert(want, row)
				if at != there {
					t.Fatalf("Insert: slot %d, not %d", at, there)
				}
			}
			if e != why || !alike(l, want) || Check(l) != api.OK || !Same(l, want) {
				t.Fatalf("%s, error %d, not %s, %d", tell(l), e, tell(want), why)
			}
			deepest = max(deepest, len(l.Slots))
			if why == api.ErrPage {
				full++
			}
		}
	}
	if deepest != 64 || full < 100 {
		t.Errorf("%d slots at most, no room %d times", deepest, full)
	}
}

// Lf4: what is set in one slot leaves all others, and the writers.
func TestSetLeavesOthers(t *testing.T) {
	r := rand.New(rand.NewPCG(8, 4))
	set := 0
	for range 3000 {
		l := strewn(r)
		if len(l.Slots) == 0 {
			continue
		}
		slot, row := r.IntN(len(l.Slots)), text(r.IntN(256), 1+r.IntN(255))
		got, e := Set(l, slot, []byte(row))
		if e != api.OK {
			continue
		}
		set++
		if string(got.Slots[slot]) != row || !slices.Equal(got.Itl, l.Itl) || len(got.Slots) != len(l.Slots) {
			t.Fatalf("Set(%s, %d) = %s", tell(l), slot, tell(got))
		}
		for i, s := range l.Slots {
			if i != slot && !bytes.Equal(got.Slots[i], s) {
				t.Fatalf("Set(%s, %d) = %s: slot %d", tell(l), slot, tell(got), i)
			}
		}
	}
	if set < 300 {
		t.Errorf("set %d times", set)
	}
}

// roomy is a leaf all lists of which have odd things in the room behind them.
func roomy(l api.Leaf) api.Leaf {
	next := api.Leaf{Itl: append(make([]int, 0, len(l.Itl)+3), l.Itl...), Slots: make([][]byte, 0, len(l.Slots)+3)}
	for i := len(l.Itl); i < cap(next.Itl); i++ {
		next.Itl[:cap(next.Itl)][i] = 900 + i
	}
	for _, s := range l.Slots {
		next.Slots = append(next.Slots, roomyBytes(string(s)))
	}
	for i := len(l.Slots); i < cap(next.Slots); i++ {
		next.Slots[:cap(next.Slots)][i] = []byte("odd")
	}
	return next
}

// odd is what lies behind the bytes that roomyBytes makes.
const odd = "odd bytes"

func roomyBytes(s string) []byte { return []byte(s + odd)[:len(s)] }

// wantLeft holds a leaf, and what lies behind its lists, against how roomy made it.
func wantLeft(t *testing.T, l, was api.Leaf, of string) {
	t.Helper()
	want := roomy(was)
	whole := func(l api.Leaf) api.Leaf {
		w := api.Leaf{Itl: l.Itl[:cap(l.Itl)], Slots: slices.Clone(l.Slots[:cap(l.Slots)])}
		for i, s := range l.Slots {
			w.Slots[i] = s[:len(s)+len(odd)]
		}
		return w
	}
	if !alike(l, was) || !alike(whole(l), whole(want)) {
		t.Fatalf("%s: what was handed in, %s, became %s", of, tell(was), tell(l))
	}
}

// spoil turns all of a leaf's lists, and the room behind them.
func spoil(l api.Leaf) {
	for i, w := range l.Itl[:cap(l.Itl)] {
		l.Itl[:cap(l.Itl)][i] = ^w
	}
	all := l.Slots[:cap(l.Slots)]
	for i, s := range all {
		spoilBytes(s)
		all[i] = []byte("spoilt")
	}
}

func spoilBytes(b []byte) {
	b = b[:cap(b)]
	for i := range b {
		b[i] = ^b[i]
	}
}

// wantApart holds that no two lists of an answer share memory: each slot is turned in its turn, with the room behind it, and leaves all others.
func wantApart(t *testing.T, l api.Leaf, of string) {
	t.Helper()
	for i, s := range l.Slots {
		before := twin(l)
		spoilBytes(s)
		for j, o := range l.Slots {
			if j != i && !bytes.Equal(o, before.Slots[j]) {
				t.Fatalf("%s: slots %d and %d share memory", of, i, j)
			}
		}
		spoilBytes(s)
	}
}

// wantNoRoom holds that there is no room behind the lists of an answer.
func wantNoRoom(t *testing.T, l api.Leaf, of string) {
	t.Helper()
	if cap(l.Itl) != len(l.Itl) || cap(l.Slots) != len(l.Slots) {
		t.Fatalf("%s: room behind %d writers: %d, and behind %d slots: %d", of, len(l.Itl), cap(l.Itl), len(l.Slots), cap(l.Slots))
	}
	for i, s := range l.Slots {
		if cap(s) != len(s) {
			t.Fatalf("%s: room behind the %d bytes of slot %d: %d", of, len(s), i, cap(s))
		}
	}
}

// act is a call that tells a leaf, with a name.
type act struct {
	name string
	do   func(l api.Leaf, row []byte, live []int) api.Leaf
}

func acts() []act {
	l := []act{
		{"Insert", func(l api.Leaf, row []byte, _ []int) api.Leaf { l, _, _ = Insert(l, row); return l }},
		{"Encode and Decode", func(l api.Leaf, _ []byte, _ []int) api.Leaf { b, _ := Encode(l); l, _ = Decode(b); return l }},
	}
	for _, slot := range []int{-1, 0, 1, 2, 3, 63, 64} {
		l = append(l,
			act{fmt.Sprintf("Set of %d", slot), func(l api.Leaf, row []byte, _ []int) api.Leaf { l, _ = Set(l, slot, row); return l }},
			act{fmt.Sprintf("Drop of %d", slot), func(l api.Leaf, _ []byte, _ []int) api.Leaf { l, _ = Drop(l, slot); return l }})
	}
	for _, w := range []int{0, 1, 2, 9, most, most + 1} {
		l = append(l, act{fmt.Sprintf("Join of %d", w), func(l api.Leaf, _ []byte, live []int) api.Leaf { l, _ = Join(l, w, live); return l }})
	}
	return l
}

// R3: what is handed in, and what lies behind it, is not changed; answers share no memory with it, nor with one another, beside an error neither, and no two lists of one share any. A list that was cut has no room behind it.
func TestLeaves(t *testing.T) {
	var leaves []api.Leaf
	for _, s := range slices.Concat(goodLeaves(), badLeaves()) {
		leaves = append(leaves, s.l)
	}
	for _, was := range leaves {
		for _, a := range acts() {
			for _, size := range []int{0, 1, 2, 233, 255, 256} {
				wantActLeaves(t, a, was, text(9, size))
			}
		}
	}
}

func wantActLeaves(t *testing.T, a act, was api.Leaf, row string) {
	t.Helper()
	of := fmt.Sprintf("%s of %s with %d bytes", a.name, tell(was), len(row))
	l, in, live := roomy(was), roomyBytes(row), append(make([]int, 0, 8), 2, 1, 3)
	got, again := a.do(l, in, live), a.do(l, in, live)
	wantLeft(t, l, was, of)
	want := twin(got)
	wantNoRoom(t, got, of)
	wantApart(t, again, of)
	spoil(got)
	wantLeft(t, l, was, of+", and its answer spoilt")
	if string(in[:len(row)+len(odd)]) != row+odd || !slices.Equal(live[:8], itl(2, 1, 3, 0, 0, 0, 0, 0)) {
		t.Fatalf("%s: the row, or who lives, was changed", of)
	}
	if !alike(again, want) {
		t.Fatalf("%s: two answers share memory, or are not alike", of)
	}
	spoil(l)
	spoilBytes(in)
	if !alike(again, want) {
		t.Fatalf("%s: the answer hangs on what was handed in", of)
	}
}

// R3: what is only asked is not changed.
func TestAskingLeaves(t *testing.T) {
	for _, s := range slices.Concat(goodLeaves(), badLeaves()) {
		l := roomy(s.l)
		Check(l)
		Room(l)
		Same(l, l)
		Same(l, plain("a"))
		b, _ := Encode(l)
		wantLeft(t, l, s.l, s.name)
		before := bytes.Clone(b)
		spoil(l)
		if !bytes.Equal(b, before) {
			t.Errorf("%s: its page hangs on the leaf", s.name)
		}
	}
}

// R3: slots of what is handed in that share memory share none in what is told.
func TestSharedSlots(t *testing.T) {
	s := []byte("shared")
	l := api.Leaf{Itl: itl(0, 0, 0, 0), Slots: [][]byte{s, s[:3], s[1:], s}}
	for _, a := range acts() {
		got := a.do(l, s, nil)
		wantApart(t, got, a.name)
		if string(s) != "shared" {
			t.Fatalf("%s: the slots handed in were changed", a.name)
		}
	}
}

// R3: a page, and what lies behind it, is not changed by Decode, and its leaf does not hang on it; pages share no memory.
func TestPagesLeave(t *testing.T) {
	pages := [][]byte{make([]byte, 512), sealed([]byte("M")), bytes.Repeat([]byte{1}, 512), make([]byte, 511)}
	for _, s := range goodLeaves() {
		pages = append(pages, pageOf(s.l))
	}
	for _, page := range pages {
		b := roomyBytes(string(page))
		l, _ := Decode(b)
		other, _ := Decode(b)
		want := twin(l)
		wantNoRoom(t, l, "Decode")
		wantApart(t, l, "Decode")
		if string(b[:len(b)+len(odd)]) != string(page)+odd {
			t.Fatalf("Decode changed a page")
		}
		spoilBytes(b)
		spoil(other)
		if !alike(l, want) {
			t.Fatalf("%s hangs on its page, or on another answer", tell(want))
		}
		x, _ := Encode(l)
		y, _ := Encode(l)
		before := bytes.Clone(y)
		spoilBytes(x)
		if !bytes.Equal(y, before) || !alike(l, want) {
			t.Fatalf("%s: pages share memory", tell(want))
		}
	}
	x, _ := Decode(make([]byte, 512))
	spoil(x)
	wantDecode(t, make([]byte, 512), plain(), api.OK, "an empty page, and another one's leaf spoilt")
}
