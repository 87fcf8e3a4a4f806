package cell

import (
	"bytes"
	"encoding/binary"
	"fmt"
	"math"
	"math/rand/v2"
	"slices"
	"strings"
	"testing"

	"humus/api"
)

const (
	most    = 1<<31 - 1
	theNaN  = 0x7FF8000000000001
	minusNo = 1 << 63 // the bits of the 0 with a sign
)

func ofBits(b uint64) float64 { return math.Float64frombits(b) }

func bitsOf(l []float64) []uint64 {
	b := []uint64{}
	for _, x := range l {
		b = append(b, math.Float64bits(x))
	}
	return b
}

// tell is cells' text for a report, numbers by their bits; "-" are empty ones.
func tell(l []api.Undo) string {
	var s []string
	for _, u := range l {
		if alikeUndo(u, api.Undo{}) {
			s = append(s, "-")
			continue
		}
		r := u.Row
		was := fmt.Sprintf("%X %v %.90s %d %d/%d", math.Float64bits(r.Key), r.Dead, fmt.Sprintf("%X", bitsOf(r.Cols)), r.Writer, r.Roll.Cell, r.Roll.No)
		s = append(s, fmt.Sprintf("{tx %d no %d prev %d kind %d at %d/%d: %s}", u.Tx, u.No, u.Prev, u.Kind, u.Page, u.Slot, was))
	}
	return fmt.Sprintf("%d cells: %s", len(l), strings.Join(s, " "))
}

// alikeUndo goes part by part, numbers by their bits.
func alikeUndo(a, b api.Undo) bool {
	if a.Tx != b.Tx || a.No != b.No || a.Prev != b.Prev || a.Kind != b.Kind || a.Page != b.Page || a.Slot != b.Slot {
		return false
	}
	if math.Float64bits(a.Row.Key) != math.Float64bits(b.Row.Key) || !slices.Equal(bitsOf(a.Row.Cols), bitsOf(b.Row.Cols)) {
		return false
	}
	return a.Row.Dead == b.Row.Dead && a.Row.Writer == b.Row.Writer && a.Row.Roll == b.Row.Roll
}

func alike(a, b []api.Undo) bool { return slices.EqualFunc(a, b, alikeUndo) }

func isNumber(x float64) bool { return x == x || math.Float64bits(x) == theNaN }

// slowRow tells by layer 4's words whether a row may be.
func slowRow(r api.Row) bool {
	if !isNumber(r.Key) || math.Float64bits(r.Key) == minusNo || len(r.Cols) > 4 || r.Dead && len(r.Cols) > 0 {
		return false
	}
	for _, x := range r.Cols {
		if !isNumber(x) {
			return false
		}
	}
	if r.Writer < 0 || r.Writer > most || r.Roll.Cell < 0 || r.Roll.Cell > 65535 {
		return false
	}
	return r.Roll.No >= 0 && r.Roll.No <= most && (r.Roll.Cell > 0 || r.Roll.No == 0)
}

// slowUndo tells by layer 9's words whether an undoing may be.
func slowUndo(u api.Undo) bool {
	if u.Tx < 1 || u.Tx > most || u.No < 1 || u.No > most {
		return false
	}
	if u.Prev < 0 || u.Prev > 65535 || u.Page < 0 || u.Page > 255 || u.Slot < 0 || u.Slot > 255 {
		return false
	}
	return u.Kind == 1 && alikeUndo(api.Undo{Row: u.Row}, api.Undo{}) || u.Kind == 2 && slowRow(u.Row)
}

// slowCells tells by the chapter's words whether these are a page's cells.
func slowCells(l []api.Undo) bool {
	for _, u := range l {
		if !alikeUndo(u, api.Undo{}) && !slowUndo(u) {
			return false
		}
	}
	return len(l) == 6
}

// undoBytes goes by the words of the layers 9 and 4, for an undoing that may be, or is nearly one.
func undoBytes(u api.Undo) []byte {
	b := []byte{byte(u.Kind)}
	b = binary.BigEndian.AppendUint32(b, uint32(u.Tx))
	b = binary.BigEndian.AppendUint32(b, uint32(u.No))
	b = binary.BigEndian.AppendUint16(b, uint16(u.Prev))
	b = append(b, byte(u.Page), byte(u.Slot))
	if u.Kind == 1 && alikeUndo(api.Undo{Row: u.Row}, api.Undo{}) {
		return append(b, 0)
	}
	row := []byte{0}
	if u.Row.Dead {
		row[0] = 1
	}
	row = binary.BigEndian.AppendUint64(row, math.Float64bits(u.Row.Key))
	row = binary.BigEndian.AppendUint32(row, uint32(u.Row.Writer))
	row = binary.BigEndian.AppendUint16(row, uint16(u.Row.Roll.Cell))
	row = binary.BigEndian.AppendUint32(row, uint32(u.Row.Roll.No))
	row = append(row, byte(len(u.Row.Cols)))
	for _, x := range u.Row.Cols {
		row = binary.BigEndian.AppendUint64(row, math.Float64bits(x))
	}
	return append(append(b, byte(len(row))), row...)
}

// slowRead reads an undoing at fixed places; it is one, if it may be, and has just these bytes.
func slowRead(b []byte) (api.Undo, bool) {
	room := append(bytes.Clone(b), make([]byte, 300)...)
	u := api.Undo{
		Kind: int(room[0]), Page: int(room[11]), Slot: int(room[12]),
		Tx:   int(binary.BigEndian.Uint32(room[1:])),
		No:   int(binary.BigEndian.Uint32(room[5:])),
		Prev: int(binary.BigEndian.Uint16(room[9:])),
	}
	if u.Kind == 2 {
		u.Row = api.Row{
			Dead: room[14] == 1, Key: ofBits(binary.BigEndian.Uint64(room[15:])),
			Writer: int(binary.BigEndian.Uint32(room[23:])),
			Roll:   api.Roll{Cell: int(binary.BigEndian.Uint16(room[27:])), No: int(binary.BigEndian.Uint32(room[29:]))},
		}
		for i := range min(5, int(room[33])) {
			u.Row.Cols = append(u.Row.Cols, ofBits(binary.BigEndian.Uint64(room[34+8*i:])))
		}
	}
	return u, slowUndo(u) && bytes.Equal(undoBytes(u), b)
}

// slowSum goes by layer 2's words, bit by bit.
func slowSum(b []byte) uint32 {
	register := ^uint32(0)
	for _, c := range b {
		for bit := 7; bit >= 0; bit-- {
			out := register >> 31
			register <<= 1
			if out != uint32(c)>>bit&1 {
				register ^= 0x814141AB
			}
		}
	}
	return register
}

// sealed is a page of these bytes, with noughts behind them, and their sum.
func sealed(b []byte) []byte {
	whole := make([]byte, 508)
	if copy(whole, b) < len(b) {
		panic("too long for a page")
	}
	return append(binary.BigEndian.AppendUint32(nil, slowSum(whole)), whole...)
}

// anew is a page that has its sum again.
func anew(page []byte) []byte { return sealed(page[4:]) }

// roomOf is a cell's bytes: a count that is maybe another one than theirs, and they.
func roomOf(count int, b []byte) []byte {
	room := make([]byte, 72)
	room[0] = byte(count)
	if copy(room[1:], b) < len(b) {
		panic("too long for a cell")
	}
	return room
}

// slowPage goes by the chapter's words, for cells that are a page's.
func slowPage(l []api.Undo) []byte {
	text := []byte{85}
	for _, u := range l {
		b := []byte{}
		if !alikeUndo(u, api.Undo{}) {
			b = undoBytes(u)
		}
		text = append(text, roomOf(len(b), b)...)
	}
	return sealed(text)
}

// slowDecode reads each cell at its fixed place, and believes them if they have just this page.
func slowDecode(b []byte) ([]api.Undo, api.Errno) {
	if len(b) != 512 {
		return nil, api.ErrArg
	}
	l := make([]api.Undo, 6)
	if bytes.Equal(b, make([]byte, 512)) {
		return l, api.OK
	}
	if slowSum(b[4:]) != binary.BigEndian.Uint32(b) {
		return nil, api.ErrSum
	}
	for i := range l {
		room := b[5+72*i : 77+72*i]
		if room[0] == 0 {
			continue
		}
		u, is := slowRead(room[1:min(72, 1+int(room[0]))])
		if !is {
			return nil, api.ErrText
		}
		l[i] = u
	}
	if !bytes.Equal(slowPage(l), b) {
		return nil, api.ErrText
	}
	return l, api.OK
}

func insert(tx, no int) api.Undo { return api.Undo{Kind: 1, Tx: tx, No: no} }

// longest is an undoing of 66 bytes, which is the most that one has.
func longest(no int) api.Undo {
	cols := []float64{ofBits(minusNo), 1.5, math.Inf(-1), -2}
	was := api.Row{Key: math.Inf(1), Cols: cols, Writer: most, Roll: api.Roll{Cell: 65535, No: most}}
	return api.Undo{Kind: 2, Tx: most, No: no, Prev: 65535, Page: 255, Slot: 255, Row: was}
}

// undos are some that may be: of each length that there is, of dead rows, and at the edges of their parts.
func undos() []api.Undo {
	nan, signed := ofBits(theNaN), ofBits(minusNo)
	return []api.Undo{
		insert(1, 1),
		{Kind: 1, Tx: 0x01020304, No: 0x05060708, Prev: 0x090A, Page: 11, Slot: 12, Row: api.Row{Cols: []float64{}}},
		{Kind: 1, Tx: most, No: most, Prev: 65535, Page: 255, Slot: 255},
		{Kind: 2, Tx: 1, No: 1},
		{Kind: 2, Tx: 5, No: 6, Page: 7, Slot: 8, Row: api.Row{Key: nan, Dead: true, Writer: most, Roll: api.Roll{Cell: 65535, No: most}}},
		{Kind: 2, Tx: 256, No: 65536, Row: api.Row{Key: -1.5, Cols: []float64{signed}, Writer: 7, Roll: api.Roll{Cell: 258, No: 0x01020304}}},
		{Kind: 2, Tx: most, No: 255, Prev: 6, Row: api.Row{Key: 0x1p-1074, Cols: []float64{nan, math.Inf(1)}}},
		{Kind: 2, Tx: 2, No: 3, Prev: 1, Page: 4, Slot: 5, Row: api.Row{Cols: []float64{0, 0, 0}, Writer: 1, Roll: api.Roll{Cell: 1}}},
		longest(9),
	}
}

// noUndos are undoings that may not be, each in one field, and are not the zero one.
func noUndos() []api.Undo {
	l := []api.Undo{{Tx: 1}, {No: 1}, {Prev: 1}, {Kind: 1}, {Kind: 2}, {Page: 1}, {Slot: 1}, {Tx: 1, No: 1}, {Tx: -1}}
	for _, r := range []api.Row{
		{Key: 1}, {Key: ofBits(minusNo)}, {Key: ofBits(theNaN)}, {Dead: true}, {Cols: []float64{0}}, {Cols: make([]float64, 70000)},
		{Writer: 1}, {Roll: api.Roll{Cell: 1}}, {Roll: api.Roll{No: 1}},
	} {
		l = append(l, api.Undo{Row: r}, api.Undo{Kind: 1, Tx: 1, No: 1, Row: r})
	}
	for _, r := range []api.Row{
		{Key: ofBits(minusNo)}, {Key: ofBits(theNaN + 1)}, {Dead: true, Cols: []float64{0}}, {Cols: make([]float64, 5)}, {Cols: []float64{ofBits(theNaN | minusNo)}},
		{Writer: -1}, {Writer: most + 1}, {Roll: api.Roll{Cell: -1}}, {Roll: api.Roll{Cell: 65536}}, {Roll: api.Roll{No: 1}}, {Roll: api.Roll{Cell: 1, No: most + 1}},
	} {
		l = append(l, api.Undo{Kind: 2, Tx: 1, No: 1, Row: r})
	}
	for _, u := range []api.Undo{insert(1, 1), longest(9)} {
		for _, n := range []int{0, -1, most + 1, math.MaxInt, math.MinInt} {
			l = append(l, with(u, func(u *api.Undo) { u.Tx = n }), with(u, func(u *api.Undo) { u.No = n }))
		}
		for _, n := range []int{-1, 65536, math.MaxInt, math.MinInt} {
			l = append(l, with(u, func(u *api.Undo) { u.Prev = n }))
		}
		for _, n := range []int{-1, 256, math.MaxInt, math.MinInt} {
			l = append(l, with(u, func(u *api.Undo) { u.Page = n }), with(u, func(u *api.Undo) { u.Slot = n }))
		}
		for _, n := range []int{0, -1, 3, 255, 257, 258, math.MaxInt, math.MinInt} {
			l = append(l, with(u, func(u *api.Undo) { u.Kind = n }))
		}
	}
	return l
}

func with(u api.Undo, change func(*api.Undo)) api.Undo {
	change(&u)
	return u
}

// at is six empty cells, but for one.
func at(i int, u api.Undo) []api.Undo {
	l := make([]api.Undo, 6)
	l[i] = u
	return l
}

// mixed is cells of undoings of many lengths, with empty ones between them.
func mixed() []api.Undo {
	return []api.Undo{
		{Kind: api.UndoInsert, Tx: 0x01020304, No: 0x05060708, Prev: 0x090A, Page: 0x0B, Slot: 0x0C},
		{},
		{Kind: api.UndoUpdate, Tx: 0x01020304, No: 0x05060709, Prev: 0x090A, Page: 0x0B, Slot: 0x0C, Row: api.Row{Key: -1, Dead: true, Writer: 0x0D0E0F10, Roll: api.Roll{Cell: 0x1112, No: 0x13141516}}},
		{Kind: api.UndoUpdate, Tx: 1, No: 2, Page: 1, Slot: 3, Row: api.Row{Key: 5, Cols: []float64{1}, Writer: 9}},
		{},
		longest(most),
	}
}

func sixLongest() []api.Undo {
	l := make([]api.Undo, 6)
	for i := range l {
		l[i] = longest(1 + i)
	}
	return l
}

// goodCells are pages' cells: each undoing in each cell, beside empty ones and beside others; none; all.
func goodCells() [][]api.Undo {
	all := [][]api.Undo{make([]api.Undo, 6), mixed(), sixLongest(), slices.Repeat([]api.Undo{insert(1, 1)}, 6)}
	for i := range 6 {
		for _, u := range undos() {
			all = append(all, at(i, u))
			l := mixed()
			l[i] = u
			all = append(all, l)
		}
		for _, full := range [][]api.Undo{mixed(), sixLongest()} { // the zero one in any place
			full[i] = api.Undo{}
			all = append(all, full)
		}
	}
	for full := range 64 { // each choice of empty ones
		l := sixLongest()
		for i := range l {
			if full>>i&1 == 0 {
				l[i] = api.Undo{Row: api.Row{Cols: []float64{}}}
			}
		}
		all = append(all, l)
	}
	return all
}

func wantEncode(t *testing.T, l []api.Undo, want []byte, why api.Errno) {
	t.Helper()
	if b, e := Encode(l); !bytes.Equal(b, want) || e != why {
		t.Fatalf("Encode(%s) = %X, error %d, not %X, %d", tell(l), b, e, want, why)
	}
}

func wantDecode(t *testing.T, b []byte, want []api.Undo, why api.Errno) {
	t.Helper()
	if l, e := slowDecode(b); !alike(l, want) || e != why {
		t.Fatalf("by the words %X are %s, error %d, not %s, %d", b, tell(l), e, tell(want), why)
	}
	wantByWords(t, b)
}

// wantByWords holds Decode against the chapter's words, and tells what it is by them.
func wantByWords(t *testing.T, b []byte) api.Errno {
	t.Helper()
	want, why := slowDecode(b)
	if l, e := Decode(b); !alike(l, want) || e != why {
		t.Fatalf("Decode(%X) = %s, error %d, not %s, %d", b, tell(l), e, tell(want), why)
	}
	return why
}

// Ce1: pages to the byte: their sums, the byte 85, each cell's count, bytes and noughts, and the noughts behind all.
func TestPages(t *testing.T) {
	const (
		one   = "\x01\x01\x02\x03\x04\x05\x06\x07\x08\x09\x0A\x0B\x0C\x00"
		three = "\x02\x01\x02\x03\x04\x05\x06\x07\x09\x09\x0A\x0B\x0C\x14\x01\xBF\xF0\x00\x00\x00\x00\x00\x00\x0D\x0E\x0F\x10\x11\x12\x13\x14\x15\x16\x00"
		four  = "\x02\x00\x00\x00\x01\x00\x00\x00\x02\x00\x00\x01\x03\x1C\x00\x40\x14\x00\x00\x00\x00\x00\x00\x00\x00\x00\x09\x00\x00\x00\x00\x00\x00\x01\x3F\xF0\x00\x00\x00\x00\x00\x00"
		six   = "\x02\x7F\xFF\xFF\xFF\x7F\xFF\xFF\xFF\xFF\xFF\xFF\xFF\x34\x00\x7F\xF0\x00\x00\x00\x00\x00\x00\x7F\xFF\xFF\xFF\xFF\xFF\x7F\xFF\xFF\xFF\x04" +
			"\x80\x00\x00\x00\x00\x00\x00\x00\x3F\xF8\x00\x00\x00\x00\x00\x00\xFF\xF0\x00\x00\x00\x00\x00\x00\xC0\x00\x00\x00\x00\x00\x00\x00"
		third = "\x01\x00\x00\x00\x01\x00\x00\x00\x02\x00\x00\x00\x00\x00"
	)
	for _, c := range []struct {
		l     []api.Undo
		sum   string
		cells [6]string
	}{
		{make([]api.Undo, 6), "\x2D\x74\x23\x97", [6]string{}},
		{at(2, insert(1, 2)), "\x7E\x74\x60\x30", [6]string{2: "\x0E" + third}},
		{mixed(), "\xDF\x21\x8D\x89", [6]string{0: "\x0E" + one, 2: "\x22" + three, 3: "\x2A" + four, 5: "\x42" + six}},
		{slices.Repeat(mixed()[5:], 6), "\xD5\x10\xB2\x3F", [6]string{"\x42" + six, "\x42" + six, "\x42" + six, "\x42" + six, "\x42" + six, "\x42" + six}},
	} {
		page := c.sum + "U"
		for _, s := range c.cells {
			page += s + strings.Repeat("\x00", 72-len(s))
		}
		page += strings.Repeat("\x00", 75)
		if len(page) != 512 {
			t.Fatalf("the page has %d bytes", len(page))
		}
		wantEncode(t, c.l, []byte(page), api.OK)
		wantDecode(t, []byte(page), c.l, api.OK)
	}
}

// Ce1: a page by the chapter's words; Ce3: Decode of Encode are the cells.
func TestEncodeAndBack(t *testing.T) {
	for _, l := range goodCells() {
		if !slowCells(l) {
			t.Fatalf("%s are no page's cells", tell(l))
		}
		wantEncode(t, l, slowPage(l), api.OK)
		b, _ := Encode(l)
		wantDecode(t, b, l, api.OK)
	}
}

// Ce1, Ce3: an undoing that has just 66 bytes, in each cell.
func TestLongest(t *testing.T) {
	for i := range 6 {
		b, e := Encode(at(i, longest(3)))
		if e != api.OK || b[5+72*i] != 66 || !bytes.Equal(b[6+72*i:77+72*i], append(undoBytes(longest(3)), 0, 0, 0, 0, 0)) {
			t.Errorf("in cell %d: %X, error %d", i, b, e)
		}
		wantDecode(t, b, at(i, longest(3)), api.OK)
	}
}

// Ce1: other than six undoings are no page's cells, and nothing is told beside ErrArg; what lies behind a list's end is none of it.
func TestEncodeOfOtherCounts(t *testing.T) {
	for n := range 40 {
		for _, u := range []api.Undo{{}, insert(1, 1), longest(1), {Tx: -1}} {
			l := slices.Repeat([]api.Undo{u}, n)
			if n == 6 {
				continue
			}
			wantEncode(t, l, nil, api.ErrArg)
			wantEncode(t, slices.Repeat([]api.Undo{u}, n+9)[:n], nil, api.ErrArg)
		}
	}
	wantEncode(t, nil, nil, api.ErrArg)
	wantEncode(t, []api.Undo{}, nil, api.ErrArg)
	room := append(mixed(), longest(8), api.Undo{Tx: -1})
	wantEncode(t, room[:6], slowPage(mixed()), api.OK)
}

// Ce1: six of which one may not be, in each place and in each field, beside empty ones and beside others.
func TestEncodeOfNoUndos(t *testing.T) {
	for _, u := range noUndos() {
		for i := range 6 {
			for _, l := range [][]api.Undo{make([]api.Undo, 6), mixed(), sixLongest(), slices.Repeat([]api.Undo{u}, 6)} {
				l[i] = u
				if slowCells(l) {
					t.Fatalf("%s are a page's cells", tell(l))
				}
				wantEncode(t, l, nil, api.ErrArg)
			}
		}
	}
}

// Ce1: Decode of other than 512 bytes, be they noughts or a page with more or less behind it.
func TestDecodeOfOtherSizes(t *testing.T) {
	wantDecode(t, nil, nil, api.ErrArg)
	for n := range 1100 {
		if n == 512 {
			continue
		}
		wantDecode(t, make([]byte, n), nil, api.ErrArg)
		for _, l := range [][]api.Undo{make([]api.Undo, 6), mixed()} {
			b := append(slowPage(l), make([]byte, 600)...)
			wantDecode(t, b[:n], nil, api.ErrArg)
			wantDecode(t, slices.Clip(b[:n]), nil, api.ErrArg)
		}
	}
	room := append(slowPage(mixed()), "behind the end"...)
	wantDecode(t, room[:512], mixed(), api.OK)
}

// Ce1: an empty page has six empty cells; of noughts with one other byte the sum is another one.
func TestDecodeOfNoughts(t *testing.T) {
	wantDecode(t, make([]byte, 512), make([]api.Undo, 6), api.OK)
	for i := range 512 {
		for _, c := range []byte{1, 2, 14, 66, 85, 128, 255} {
			b := make([]byte, 512)
			b[i] = c
			wantDecode(t, b, nil, api.ErrSum)
		}
	}
	b, e := Encode(make([]api.Undo, 6))
	if e != api.OK || b[4] != 85 {
		t.Errorf("a page of six empty cells is told as %X, error %d", b, e)
	}
	wantDecode(t, sealed(nil), nil, api.ErrText) // noughts with their sum are not an empty page
}

// Ce1: a page with one bit turned anywhere, and with many of them turned.
func TestDecodeOfOtherSums(t *testing.T) {
	for _, l := range [][]api.Undo{make([]api.Undo, 6), mixed(), sixLongest()} {
		page := slowPage(l)
		for bit := range 8 * 512 {
			b := bytes.Clone(page)
			b[bit/8] ^= 1 << (bit % 8)
			wantDecode(t, b, nil, api.ErrSum)
		}
		for i := range 509 {
			b := bytes.Clone(page)
			b[i], b[i+3] = ^b[i], ^b[i+3]
			wantDecode(t, b, nil, api.ErrSum)
		}
	}
}

// Ce1: the sum is told ahead of what else is wrong with a page, and goes over all of it.
func TestDecodeTellsSumFirst(t *testing.T) {
	page := slowPage(mixed())
	for _, change := range []func(b []byte){
		func(b []byte) { b[4] = 'L' },
		func(b []byte) { b[5] = 255 },
		func(b []byte) { b[511] = 1 },
		func(b []byte) { copy(b, make([]byte, 4)) },
		func(b []byte) { binary.BigEndian.PutUint32(b, slowSum(b[4:437])) },
		func(b []byte) { binary.LittleEndian.PutUint32(b, slowSum(b[4:])) },
		func(b []byte) { binary.BigEndian.PutUint32(b, ^slowSum(b[4:])) },
	} {
		b := bytes.Clone(page)
		change(b)
		wantDecode(t, b, nil, api.ErrSum)
	}
}

// wantNoPage holds that a page that is sealed anew is none.
func wantNoPage(t *testing.T, page []byte) {
	t.Helper()
	wantDecode(t, anew(page), nil, api.ErrText)
}

// put is bytes with others laid over them.
func put(b []byte, at int, over ...byte) []byte {
	b = bytes.Clone(b)
	copy(b[at:], over)
	return b
}

// Ce1: sealed pages with another first byte, or with a byte behind the last cell that is no nought.
func TestDecodeOfOtherEnds(t *testing.T) {
	for _, l := range [][]api.Undo{make([]api.Undo, 6), mixed(), sixLongest()} {
		page := slowPage(l)
		for c := range 256 {
			if c != 85 {
				wantNoPage(t, put(page, 4, byte(c)))
			}
		}
		for i := 437; i < 512; i++ {
			for _, c := range []byte{1, 85, 128, 255} {
				wantNoPage(t, put(page, i, c))
			}
		}
	}
}

// Ce1: each count in each cell that is not its undoing's: one more, one less, above what a cell holds.
func TestDecodeOfOtherCounts(t *testing.T) {
	for _, l := range [][]api.Undo{make([]api.Undo, 6), mixed(), sixLongest()} {
		page := slowPage(l)
		for i := range 6 {
			start := 5 + 72*i
			for c := range 256 {
				if c != int(page[start]) {
					wantNoPage(t, put(page, start, byte(c)))
				}
			}
		}
	}
}

// Ce1: a byte behind an undoing in its cell that is no nought, and an empty cell with bytes.
func TestDecodeOfBytesBehind(t *testing.T) {
	for _, l := range [][]api.Undo{make([]api.Undo, 6), mixed(), sixLongest()} {
		page := slowPage(l)
		for i := range 6 {
			start, end := 5+72*i, 5+72*(i+1)
			for behind := start + 1 + int(page[start]); behind < end; behind++ {
				for _, c := range []byte{1, 14, 128, 255} {
					wantNoPage(t, put(page, behind, c))
				}
			}
			if page[start] == 0 {
				for _, u := range undos() { // an undoing that nothing counts
					wantNoPage(t, put(page, start, roomOf(0, undoBytes(u))...))
				}
			}
		}
	}
}

// Ce1: an undoing that may not be, in each cell, with the count of its bytes; and bytes of none.
func TestDecodeOfNoUndos(t *testing.T) {
	none := [][]byte{
		undoBytes(insert(0, 1)), undoBytes(insert(1, 0)), undoBytes(insert(most+1, 1)), undoBytes(insert(1, most+1)),
		undoBytes(api.Undo{Kind: 0, Tx: 1, No: 1}), undoBytes(api.Undo{Kind: 3, Tx: 1, No: 1}), undoBytes(api.Undo{}),
		undoBytes(api.Undo{Kind: 1, Tx: 1, No: 1, Row: api.Row{Key: 1}}),
		undoBytes(api.Undo{Kind: 2, Tx: 1, No: 1, Row: api.Row{Key: ofBits(minusNo)}}),
		undoBytes(api.Undo{Kind: 2, Tx: 1, No: 1, Row: api.Row{Key: ofBits(theNaN + 1)}}),
		undoBytes(api.Undo{Kind: 2, Tx: 1, No: 1, Row: api.Row{Dead: true, Cols: []float64{1}}}),
		undoBytes(api.Undo{Kind: 2, Tx: 1, No: 1, Row: api.Row{Writer: most + 1}}),
		undoBytes(api.Undo{Kind: 2, Tx: 1, No: 1, Row: api.Row{Roll: api.Roll{No: 1}}}),
		append(undoBytes(longest(1)), 0), append(undoBytes(longest(1)), 0, 0, 0, 0, 0),
		undoBytes(longest(1))[:65], undoBytes(longest(1))[1:], undoBytes(insert(1, 1))[:13], append(undoBytes(insert(1, 1)), 0),
		{1}, {0}, []byte("no undoing at all"), make([]byte, 14), make([]byte, 34), make([]byte, 66), make([]byte, 71), bytes.Repeat([]byte{0xFF}, 71),
	}
	for _, l := range [][]api.Undo{make([]api.Undo, 6), mixed(), sixLongest()} {
		for i := range 6 {
			for _, b := range none {
				wantNoPage(t, put(slowPage(l), 5+72*i, roomOf(len(b), b)...))
			}
		}
	}
}

// Ce1: cells that are shifted, of other sizes, without their mark, of rows, or seven of them.
func TestDecodeOfOtherPages(t *testing.T) {
	page := slowPage(mixed())
	wantNoPage(t, append(make([]byte, 4), page[5:437]...))
	wantNoPage(t, append(append(make([]byte, 4), 85, 0), page[5:437]...))
	wantNoPage(t, append(append(make([]byte, 4), 85), page[6:437]...))
	wantNoPage(t, append(bytes.Clone(page[:437]), roomOf(14, undoBytes(insert(1, 1)))...))
	wantNoPage(t, append(append(make([]byte, 4), 85, 6), page[5:437]...))
	text := []byte{85}
	for _, u := range mixed() { // one behind the other, without noughts between them
		b := undoBytes(u)
		text = append(append(text, byte(len(b))), b...)
	}
	wantDecode(t, sealed(text), nil, api.ErrText)
}

// inUndo tells whether a page's byte is an undoing's, or a cell's count.
func inUndo(page []byte, i int) bool {
	at := (i - 5) % 72
	return i >= 5 && i < 437 && at <= int(page[i-at])
}

// Ce1: each byte of a page is made each other one (of noughts behind an undoing a few), and sealed anew: it is then another page, of other cells, or none.
func TestDecodeOfEachByte(t *testing.T) {
	is, none := 0, 0
	page := slowPage(mixed())
	for i := 4; i < 512; i++ {
		for c := range 256 {
			if !inUndo(page, i) && c%32 != 1 {
				continue
			}
			b := anew(put(page, i, byte(c)))
			if wantByWords(t, b) != api.OK {
				none++
				continue
			}
			is++
			l, _ := Decode(b)
			wantEncode(t, l, b, api.OK)
			if alike(l, mixed()) != bytes.Equal(b, page) {
				t.Fatalf("byte %d as %d: %s", i, c, tell(l))
			}
		}
	}
	if is < 10000 || none < 10000 {
		t.Errorf("%d pages, %d that are none: too few to tell", is, none)
	}
}

// strewnUndo is one that mostly may be; numbers stray out of their bounds now and then.
func strewnUndo(r *rand.Rand) api.Undo {
	u := api.Undo{Kind: 1 + r.IntN(2), Tx: 1 + r.IntN(most), No: 1 + r.IntN(most), Prev: r.IntN(65536), Page: r.IntN(256), Slot: r.IntN(256)}
	if u.Kind == 2 {
		u.Row = api.Row{Key: float64(r.IntN(9)) - 4, Dead: r.IntN(3) == 0, Writer: r.IntN(most), Roll: api.Roll{Cell: 1 + r.IntN(65535), No: r.IntN(most)}}
		for range r.IntN(5) {
			if !u.Row.Dead {
				u.Row.Cols = append(u.Row.Cols, r.NormFloat64())
			}
		}
	}
	switch r.IntN(60) {
	case 0:
		u.Tx = []int{0, -1, most + 1}[r.IntN(3)]
	case 1:
		u.Kind = 3 - u.Kind
	case 2:
		u.Row.Cols = append(u.Row.Cols, 1, 2)
	case 3:
		u.Row.Key = ofBits(r.Uint64())
	case 4:
		u.Slot = r.IntN(600) - 200
	}
	return u
}

// Ce1, Ce3: strewn cells, now and then too few or too many, are held against the chapter's words.
func TestEncodeOfStrewn(t *testing.T) {
	r := rand.New(rand.NewPCG(10, 1))
	is, none := 0, 0
	for range 20000 {
		n := 6
		if r.IntN(20) == 0 {
			n = r.IntN(14)
		}
		l := make([]api.Undo, n)
		for i := range l {
			if r.IntN(3) > 0 {
				l[i] = strewnUndo(r)
			}
		}
		if !slowCells(l) {
			none++
			wantEncode(t, l, nil, api.ErrArg)
			continue
		}
		is++
		b := slowPage(l)
		wantEncode(t, l, b, api.OK)
		wantDecode(t, b, l, api.OK)
	}
	if is < 4000 || none < 4000 {
		t.Errorf("%d pages' cells, %d that are none: too few to tell", is, none)
	}
}

// Ce1: strewn pages, sealed, most of them: a few bytes of a page are any others, at the edges of the cells rather than elsewhere.
func TestDecodeOfStrewn(t *testing.T) {
	r := rand.New(rand.NewPCG(10, 2))
	told := map[api.Errno]int{}
	good := goodCells()
	for range 30000 {
		b := slowPage(good[r.IntN(len(good))])
		for range r.IntN(4) {
			i := 4 + r.IntN(508)
			if r.IntN(3) == 0 {
				i = 5 + 72*r.IntN(7) + r.IntN(3) - 1
			}
			b[i] = byte(r.Uint32())
			if r.IntN(2) == 0 {
				b[i] = byte(r.IntN(2))
			}
		}
		if r.IntN(8) > 0 {
			b = anew(b)
		}
		if r.IntN(50) == 0 {
			b = b[:r.IntN(512)]
		}
		told[wantByWords(t, b)]++
	}
	for _, e := range []api.Errno{api.OK, api.ErrArg, api.ErrSum, api.ErrText} {
		if told[e] < 500 {
			t.Errorf("error %d was told %d times: too few to tell", e, told[e])
		}
	}
}

func wantPlace(t *testing.T, cell, page, at int) {
	t.Helper()
	if p, a := Place(cell); p != page || a != at {
		t.Errorf("Place(%d) = (%d, %d), not (%d, %d)", cell, p, a, page, at)
	}
}

func wantNumber(t *testing.T, page, at, cell int) {
	t.Helper()
	if n := Number(page, at); n != cell {
		t.Errorf("Number(%d, %d) = %d, not %d", page, at, n, cell)
	}
}

// The chapter's example.
func TestExample(t *testing.T) { wantPlace(t, 7, 1, 0) }

// Ce2: Place at the edges, and of what is no cell.
func TestPlace(t *testing.T) {
	for _, c := range []struct{ cell, page, at int }{
		{1, 0, 0}, {2, 0, 1}, {6, 0, 5}, {7, 1, 0}, {12, 1, 5}, {13, 2, 0},
		{65532, 10921, 5}, {65533, 10922, 0}, {65534, 10922, 1}, {65535, 10922, 2},
	} {
		wantPlace(t, c.cell, c.page, c.at)
	}
	for _, cell := range []int{0, -1, -5, -6, -7, -65535, 65536, 65537, 65538, 131071, 1 << 32, 1<<32 + 1, math.MaxInt, math.MinInt, math.MinInt + 1} {
		wantPlace(t, cell, -1, -1)
	}
}

// Ce2: Number at the edges, and of what is no place.
func TestNumber(t *testing.T) {
	for _, c := range []struct{ page, at, cell int }{
		{0, 0, 1}, {0, 5, 6}, {1, 0, 7}, {1, 5, 12}, {10921, 0, 65527}, {10921, 5, 65532},
		{10922, 0, 65533}, {10922, 1, 65534}, {10922, 2, 65535}, {10922, 3, 0}, {10922, 4, 0}, {10922, 5, 0}, {10922, 6, 0}, {10922, -1, 0},
	} {
		wantNumber(t, c.page, c.at, c.cell)
	}
	far := []int{math.MaxInt, math.MaxInt - 1, math.MaxInt / 6, math.MaxInt/6 + 1, math.MinInt, math.MinInt + 1, math.MinInt / 6, 1 << 32, 1 << 62, -1 << 62}
	for _, page := range append(far, -1, -2, 10923, 10924, 65535, 65536) {
		for _, at := range append(far, -1, 0, 1, 2, 5, 6, 7) {
			wantNumber(t, page, at, 0)
		}
	}
	for _, at := range append(far, -1, -2, -6, 6, 7, 12, 65535) {
		for _, page := range []int{0, 1, 2, 5461, 10921, 10922} {
			wantNumber(t, page, at, 0)
		}
	}
}

// Ce2: all places around those that there are: counted up, page by page, till the cells end. Ce3: Number of Place is the cell, for every cell.
func TestAllPlaces(t *testing.T) {
	next := 1
	for page := -3; page < 11000; page++ {
		for at := -3; at < 10; at++ {
			if page < 0 || at < 0 || at > 5 || next > 65535 {
				wantNumber(t, page, at, 0)
				continue
			}
			wantNumber(t, page, at, next)
			wantPlace(t, next, page, at)
			next++
		}
	}
	if next != 65536 {
		t.Errorf("there are %d cells", next-1)
	}
	for cell := -70000; cell < 140000; cell++ {
		page, at := Place(cell)
		if is := cell >= 1 && cell <= 65535; is && Number(page, at) != cell || !is && (page != -1 || at != -1 || Number(page, at) != 0) {
			t.Fatalf("Place(%d) = (%d, %d), whose number is %d", cell, page, at, Number(page, at))
		}
	}
}

// Ce1: going through the cells ends where it is broken off.
func TestRooms(t *testing.T) {
	text := make([]byte, 508)
	for i := range text {
		text[i] = byte(i % 251)
	}
	for stop := range 7 {
		got := 0
		for i, room := range rooms(text) {
			if i == stop {
				break
			}
			if i != got || !bytes.Equal(room, text[1+72*i:73+72*i]) {
				t.Errorf("cell %d is told as %d: %X", got, i, room)
			}
			got++
		}
		if got != stop {
			t.Errorf("%d cells, not %d", got, stop)
		}
	}
}

// spoil turns all of a list of bytes, and its spare room.
func spoil(b []byte) {
	b = b[:cap(b)]
	for i := range b {
		b[i] ^= 0xFF
	}
}

// spoilCells writes over all of a list of cells, their columns, and the spare room of both.
func spoilCells(l []api.Undo) {
	l = l[:cap(l)]
	for i := range l {
		cols := l[i].Row.Cols[:cap(l[i].Row.Cols)]
		for j := range cols {
			cols[j] = -99.5
		}
		l[i] = api.Undo{Tx: -7, Row: api.Row{Cols: []float64{3}}}
	}
}

// R3: the cells that are handed in are left, with what lies behind their end and behind their columns', and the page shares nothing with them or with another one.
func TestEncodeLeaves(t *testing.T) {
	for _, n := range []int{0, 5, 6, 7} {
		for _, bad := range []bool{false, true} {
			behind := []float64{1, 2, 3, 4, 5}
			room := append(sixLongest(), longest(7), longest(8))
			room[0].Row.Cols = behind[:2]
			room[1].Row.Cols = behind[:3] // shared with another one
			if bad {
				room[4].Tx = 0
			}
			was := tell(room)
			a, _ := Encode(room[:n])
			b, _ := Encode(room[:n])
			told := bytes.Clone(b)
			spoil(a)
			if tell(room) != was || !slices.Equal(behind, []float64{1, 2, 3, 4, 5}) {
				t.Errorf("what was handed in has changed: %s, %v", tell(room), behind)
			}
			spoilCells(room)
			if !bytes.Equal(b, told) {
				t.Errorf("a page has changed with another one, or with its cells: %X", b)
			}
		}
	}
}

// R3: the page that is handed in is left, with what lies behind its end, and the cells share nothing with it, with others, or with each other.
func TestDecodeLeaves(t *testing.T) {
	pages := [][]byte{make([]byte, 512), slowPage(make([]api.Undo, 6)), slowPage(mixed()), slowPage(sixLongest()), put(slowPage(mixed()), 9, 9), anew(put(slowPage(mixed()), 365, 9))}
	for _, page := range pages {
		for _, n := range []int{511, 512} {
			long := append(bytes.Clone(page), "behind the end"...)
			was := bytes.Clone(long)
			want, _ := slowDecode(page[:n])
			a, _ := Decode(long[:n])
			b, _ := Decode(long[:n])
			spoilCells(a)
			if !bytes.Equal(long, was) {
				t.Errorf("Decode has changed what it was given: %X", long)
			}
			spoil(long)
			if !alike(b, want) {
				t.Errorf("cells have changed with others, or with their page: %s", tell(b))
			}
			for i := range b { // and one at a time
				spoilCells(b[i : i+1 : i+1])
				if !alike(b[i+1:], want[i+1:]) {
					t.Errorf("cells have changed with the one ahead of them: %s", tell(b))
				}
			}
		}
	}
}

// R4: asked again, behind an error too, the same is told.
func TestAgain(t *testing.T) {
	for _, l := range goodCells() {
		a, _ := Encode(l)
		x, e := Decode(a)
		wantEncode(t, sixLongest()[:5], nil, api.ErrArg)
		wantDecode(t, nil, nil, api.ErrArg)
		wantNoPage(t, put(a, 4, 9))
		wantPlace(t, 0, -1, -1)
		b, _ := Encode(l)
		y, f := Decode(b)
		if !bytes.Equal(a, b) || e != f || !alike(x, y) {
			t.Errorf("%s: two answers", tell(l))
		}
	}
}
