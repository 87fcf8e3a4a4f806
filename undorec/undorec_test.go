package undorec

import (
	"bytes"
	"encoding/binary"
	"fmt"
	"math"
	"math/rand/v2"
	"slices"
	"testing"

	"humus/api"
)

const (
	most    = 1<<31 - 1
	theNaN  = 0x7FF8000000000001
	minusNo = 1 << 63 // the bits of the 0 with a sign
)

func ofBits(b uint64) float64 { return math.Float64frombits(b) }

func bitsOf(l []float64) []uint64 {
	b := []uint64{}
	for _, x := range l {
		b = append(b, math.Float64bits(x))
	}
	return b
}

func tellRow(r api.Row) string {
	return fmt.Sprintf("{%016X %v %X %d %d/%d}", math.Float64bits(r.Key), r.Dead, bitsOf(r.Cols), r.Writer, r.Roll.Cell, r.Roll.No)
}

func tell(u api.Undo) string {
	return fmt.Sprintf("{tx %d no %d prev %d kind %d at %d/%d %.200s}", u.Tx, u.No, u.Prev, u.Kind, u.Page, u.Slot, tellRow(u.Row))
}

// alike goes part by part, numbers by their bits: what is told must not hang on Same.
func alike(a, b api.Undo) bool {
	if a.Tx != b.Tx || a.No != b.No || a.Prev != b.Prev || a.Kind != b.Kind || a.Page != b.Page || a.Slot != b.Slot {
		return false
	}
	if math.Float64bits(a.Row.Key) != math.Float64bits(b.Row.Key) || !slices.Equal(bitsOf(a.Row.Cols), bitsOf(b.Row.Cols)) {
		return false
	}
	return a.Row.Dead == b.Row.Dead && a.Row.Writer == b.Row.Writer && a.Row.Roll == b.Row.Roll
}

// slowRow tells by layer 4's words whether a row may be.
func slowRow(r api.Row) bool {
	if !isNumber(r.Key) || math.Float64bits(r.Key) == minusNo || len(r.Cols) > 4 || r.Dead && len(r.Cols) > 0 {
		return false
	}
	for _, x := range r.Cols {
		if !isNumber(x) {
			return false
		}
	}
	if r.Writer < 0 || r.Writer > most || r.Roll.Cell < 0 || r.Roll.Cell > 65535 {
		return false
	}
	return r.Roll.No >= 0 && r.Roll.No <= most && (r.Roll.Cell > 0 || r.Roll.No == 0)
}

func isNumber(x float64) bool { return x == x || math.Float64bits(x) == theNaN }

// slowCheck tells by the chapter's words whether an undoing may be.
func slowCheck(u api.Undo) bool {
	if u.Tx < 1 || u.Tx > most || u.No < 1 || u.No > most {
		return false
	}
	if u.Prev < 0 || u.Prev > 65535 || u.Page < 0 || u.Page > 255 || u.Slot < 0 || u.Slot > 255 {
		return false
	}
	zero := math.Float64bits(u.Row.Key) == 0 && !u.Row.Dead && len(u.Row.Cols) == 0 && u.Row.Writer == 0 && u.Row.Roll == api.Roll{}
	return u.Kind == 1 && zero || u.Kind == 2 && slowRow(u.Row)
}

// rowBytes goes by layer 4's words, for a row that may be.
func rowBytes(r api.Row) []byte {
	b := []byte{0}
	if r.Dead {
		b[0] = 1
	}
	b = binary.BigEndian.AppendUint64(b, math.Float64bits(r.Key))
	b = binary.BigEndian.AppendUint32(b, uint32(r.Writer))
	b = binary.BigEndian.AppendUint16(b, uint16(r.Roll.Cell))
	b = binary.BigEndian.AppendUint32(b, uint32(r.Roll.No))
	b = append(b, byte(len(r.Cols)))
	for _, x := range r.Cols {
		b = binary.BigEndian.AppendUint64(b, math.Float64bits(x))
	}
	return b
}

// headBytes are those ahead of the row's.
func headBytes(u api.Undo) []byte {
	b := []byte{byte(u.Kind)}
	b = binary.BigEndian.AppendUint32(b, uint32(u.Tx))
	b = binary.BigEndian.AppendUint32(b, uint32(u.No))
	b = binary.BigEndian.AppendUint16(b, uint16(u.Prev))
	return append(b, byte(u.Page), byte(u.Slot))
}

// laid is an undoing's head, with a text that is maybe no row's.
func laid(u api.Undo, text []byte) []byte {
	return append(append(headBytes(u), byte(len(text))), text...)
}

// bytesOf goes by the chapter's words, for an undoing that may be.
func bytesOf(u api.Undo) []byte {
	if u.Kind == 1 {
		return laid(u, nil)
	}
	return laid(u, rowBytes(u.Row))
}

// slowDecode reads at fixed places, and believes it if what it has read may be, and has just these bytes.
func slowDecode(b []byte) (api.Undo, bool) {
	room := append(bytes.Clone(b), make([]byte, 300)...)
	u := api.Undo{
		Kind: int(room[0]), Page: int(room[11]), Slot: int(room[12]),
		Tx:   int(binary.BigEndian.Uint32(room[1:])),
		No:   int(binary.BigEndian.Uint32(room[5:])),
		Prev: int(binary.BigEndian.Uint16(room[9:])),
	}
	if u.Kind == 2 {
		u.Row = api.Row{
			Dead: room[14] == 1, Key: ofBits(binary.BigEndian.Uint64(room[15:])),
			Writer: int(binary.BigEndian.Uint32(room[23:])),
			Roll:   api.Roll{Cell: int(binary.BigEndian.Uint16(room[27:])), No: int(binary.BigEndian.Uint32(room[29:]))},
		}
		for i := range min(5, int(room[33])) {
			u.Row.Cols = append(u.Row.Cols, ofBits(binary.BigEndian.Uint64(room[34+8*i:])))
		}
	}
	if !slowCheck(u) || !bytes.Equal(bytesOf(u), b) {
		return api.Undo{}, false
	}
	return u, true
}

// rows are some that may be: of no columns to four, dead ones, and at the edges of their parts.
func rows() []api.Row {
	nan, signed := ofBits(theNaN), ofBits(minusNo)
	return []api.Row{
		{}, {Cols: []float64{}}, {Dead: true}, {Key: 1}, {Writer: 1}, {Roll: api.Roll{Cell: 1}}, {Cols: []float64{0}},
		{Key: nan, Dead: true, Cols: []float64{}, Writer: most, Roll: api.Roll{Cell: 65535, No: most}},
		{Key: -1.5, Cols: []float64{signed}, Writer: 7, Roll: api.Roll{Cell: 258, No: 0x01020304}},
		{Key: math.Inf(-1), Cols: []float64{nan, math.Inf(1)}, Writer: 256},
		{Key: 0x1p-1074, Cols: []float64{1, signed, 3}, Writer: 65536, Roll: api.Roll{Cell: 1, No: 1}},
		{Key: math.MaxFloat64, Cols: []float64{signed, nan, -math.MaxFloat64, 0x1p-1074}, Writer: most, Roll: api.Roll{Cell: 65535, No: most}},
	}
}

// noRows are some that may not be, each in one part.
func noRows() []api.Row {
	return []api.Row{
		{Key: ofBits(minusNo)}, {Key: ofBits(theNaN + 1)}, {Key: ofBits(theNaN - 1)}, {Key: ofBits(theNaN | minusNo)}, {Key: ofBits(0x7FF0000000000001)},
		{Dead: true, Cols: []float64{0}}, {Dead: true, Cols: make([]float64, 4)}, {Dead: true, Cols: make([]float64, 5)},
		{Cols: make([]float64, 5)}, {Cols: make([]float64, 256)}, {Cols: make([]float64, 260)}, {Cols: make([]float64, 70000)},
		{Cols: []float64{ofBits(theNaN - 1)}}, {Cols: []float64{1, 2, 3, ofBits(theNaN | minusNo)}},
		{Writer: -1}, {Writer: most + 1}, {Writer: 1 << 32}, {Writer: math.MaxInt}, {Writer: math.MinInt},
		{Roll: api.Roll{Cell: -1}}, {Roll: api.Roll{Cell: 65536}}, {Roll: api.Roll{Cell: 65537, No: 1}}, {Roll: api.Roll{No: 1}},
		{Roll: api.Roll{Cell: 1, No: -1}}, {Roll: api.Roll{Cell: 1, No: most + 1}}, {Roll: api.Roll{No: -1}},
	}
}

// noZeros are rows that are not the zero one, each in one part: that may be, and may not.
func noZeros() []api.Row {
	l := []api.Row{
		{Key: 0x1p-1074}, {Key: 2}, {Key: math.Inf(1)}, {Key: ofBits(theNaN)}, {Dead: true},
		{Cols: []float64{0}}, {Cols: make([]float64, 2)}, {Cols: []float64{ofBits(minusNo)}}, {Cols: make([]float64, 4)},
		{Writer: 1}, {Writer: most}, {Roll: api.Roll{Cell: 1}}, {Roll: api.Roll{Cell: 65535}}, {Roll: api.Roll{Cell: 1, No: 1}},
	}
	return append(l, noRows()...)
}

// plain are undoings that may be: of each kind, with each of the rows.
func plain() []api.Undo {
	l := []api.Undo{
		{Kind: 1, Tx: 1, No: 1},
		{Kind: 1, Tx: 0x01020304, No: 0x05060708, Prev: 0x090A, Page: 11, Slot: 12, Row: api.Row{Cols: []float64{}}},
		{Kind: 1, Tx: most, No: most, Prev: 65535, Page: 255, Slot: 255},
	}
	for i, r := range rows() {
		l = append(l, api.Undo{Kind: 2, Tx: 1 + i, No: 300 + i, Prev: 6 * i, Page: i, Slot: 2 * i, Row: r})
	}
	return append(l, api.Undo{Kind: 2, Tx: most, No: most, Prev: 65535, Page: 255, Slot: 255, Row: rows()[len(rows())-1]})
}

func counts() []int { return []int{1, 2, 255, 256, 65535, 65536, 0x01020304, most - 1, most} }
func noCounts() []int {
	return []int{0, -1, -2, -most, most + 1, most + 2, 1<<32 - 1, 1 << 32, 1<<32 + 1, math.MaxInt, math.MinInt}
}

func prevs() []int { return []int{0, 1, 6, 255, 256, 258, 32767, 32768, 65534, 65535} }
func noPrevs() []int {
	return []int{-1, -2, -65535, -65536, 65536, 65537, 131072, most, most + 1, 1 << 32, 1<<32 + 1, math.MaxInt, math.MinInt}
}

func places() []int { return []int{0, 1, 2, 63, 127, 128, 254, 255} }
func noPlaces() []int {
	return []int{-1, -2, -255, -256, 256, 257, 511, 512, 65536, most, 1 << 32, 1<<32 + 1, math.MaxInt, math.MinInt}
}

func noKinds() []int {
	return []int{0, -1, -2, 3, 4, 5, 255, 256, 257, 258, 1<<32 + 1, 1<<32 + 2, math.MaxInt, math.MinInt}
}

// strayed are undoings with other numbers in the same field.
func strayed(u api.Undo, field func(*api.Undo) *int, numbers []int) []api.Undo {
	l := []api.Undo{}
	for _, n := range numbers {
		*field(&u) = n
		l = append(l, u)
	}
	return l
}

func tx(u *api.Undo) *int   { return &u.Tx }
func no(u *api.Undo) *int   { return &u.No }
func prev(u *api.Undo) *int { return &u.Prev }
func kind(u *api.Undo) *int { return &u.Kind }
func page(u *api.Undo) *int { return &u.Page }
func slot(u *api.Undo) *int { return &u.Slot }

// goodUndos are undoings that may be, at the edges of each part.
func goodUndos() []api.Undo {
	l := plain()
	for _, u := range plain() {
		l = append(l, strayed(u, tx, counts())...)
		l = append(l, strayed(u, no, counts())...)
		l = append(l, strayed(u, prev, prevs())...)
		l = append(l, strayed(u, page, places())...)
		l = append(l, strayed(u, slot, places())...)
	}
	return l
}

// badUndos are undoings of which one part may not be, whatever the others are, and the zero one.
func badUndos() []api.Undo {
	l := []api.Undo{{}}
	for _, u := range plain() {
		l = append(l, strayed(u, tx, noCounts())...)
		l = append(l, strayed(u, no, noCounts())...)
		l = append(l, strayed(u, prev, noPrevs())...)
		l = append(l, strayed(u, page, noPlaces())...)
		l = append(l, strayed(u, slot, noPlaces())...)
		l = append(l, strayed(u, kind, noKinds())...)
		for _, r := range noZeros() {
			l = append(l, api.Undo{Kind: 1, Tx: u.Tx, No: u.No, Prev: u.Prev, Page: u.Page, Slot: u.Slot, Row: r})
		}
		for _, r := range noRows() {
			l = append(l, api.Undo{Kind: 2, Tx: u.Tx, No: u.No, Prev: u.Prev, Page: u.Page, Slot: u.Slot, Row: r})
		}
	}
	return l
}

// Un1: undoings that may be, and those that may not.
func TestCheck(t *testing.T) {
	for _, u := range goodUndos() {
		if e := Check(u); e != api.OK || !slowCheck(u) {
			t.Errorf("Check(%s) = %d", tell(u), e)
		}
	}
	for _, u := range badUndos() {
		if e := Check(u); e != api.ErrArg || slowCheck(u) {
			t.Errorf("Check(%s) = %d", tell(u), e)
		}
	}
}

// Un1: each number around the edges, in each field, of both kinds.
func TestCheckAll(t *testing.T) {
	for _, u := range []api.Undo{{Kind: 1, Tx: 5, No: 5}, {Kind: 2, Tx: 5, No: 5, Row: api.Row{Key: 3, Cols: []float64{4}}}} {
		for _, c := range []struct {
			name        string
			field       func(*api.Undo) *int
			least, most int
		}{
			{"tx", tx, 1, most}, {"no", no, 1, most}, {"prev", prev, 0, 65535}, {"page", page, 0, 255}, {"slot", slot, 0, 255}, {"kind", kind, u.Kind, u.Kind},
		} {
			for n := -70000; n <= 70000; n++ {
				for _, n := range []int{n, most + n} {
					x := u
					*c.field(&x) = n
					is, want := Check(x) == api.OK, n >= c.least && n <= c.most
					if c.name == "kind" && u.Kind == 1 { // the zero row may have been, too
						want = n == 1 || n == 2
					}
					if is != want {
						t.Fatalf("kind %d: %s %d may be: %v", u.Kind, c.name, n, is)
					}
				}
			}
		}
	}
}

// Un1: an undoing of an insert has the zero row, its columns nil or empty; an update has any that may be, the zero one too.
func TestCheckRow(t *testing.T) {
	u := api.Undo{Tx: 1, No: 1}
	for _, r := range append(append(rows(), noRows()...), noZeros()...) {
		u.Row = r
		for _, k := range []int{1, 2} {
			u.Kind = k
			if is := Check(u) == api.OK; is != slowCheck(u) {
				t.Errorf("%s may be: %v", tell(u), is)
			}
		}
	}
	for _, cols := range [][]float64{nil, {}, make([]float64, 0, 9)} {
		for _, k := range []int{1, 2} {
			if e := Check(api.Undo{Kind: k, Tx: 1, No: 1, Row: api.Row{Cols: cols}}); e != api.OK {
				t.Errorf("the zero row, of kind %d: error %d", k, e)
			}
		}
	}
}

func knownUndos() []struct {
	u api.Undo
	b string
} {
	nan, signed := ofBits(theNaN), ofBits(minusNo)
	return []struct {
		u api.Undo
		b string
	}{
		{api.Undo{Kind: api.UndoInsert, Tx: 1, No: 1}, "\x01\x00\x00\x00\x01\x00\x00\x00\x01\x00\x00\x00\x00\x00"},
		{
			api.Undo{Kind: api.UndoInsert, Tx: 0x01020304, No: 0x05060708, Prev: 0x090A, Page: 0x0B, Slot: 0x0C},
			"\x01\x01\x02\x03\x04\x05\x06\x07\x08\x09\x0A\x0B\x0C\x00",
		},
		{
			api.Undo{Kind: api.UndoUpdate, Tx: 1, No: 1},
			"\x02\x00\x00\x00\x01\x00\x00\x00\x01\x00\x00\x00\x00\x14\x00\x00\x00\x00\x00\x00\x00\x00\x00\x00\x00\x00\x00\x00\x00\x00\x00\x00\x00\x00",
		},
		{
			api.Undo{Kind: api.UndoUpdate, Tx: 1, No: 2, Page: 1, Slot: 3, Row: api.Row{Key: 5, Cols: []float64{1}, Writer: 9}},
			"\x02\x00\x00\x00\x01\x00\x00\x00\x02\x00\x00\x01\x03\x1C\x00\x40\x14\x00\x00\x00\x00\x00\x00\x00\x00\x00\x09\x00\x00\x00\x00\x00\x00\x01\x3F\xF0\x00\x00\x00\x00\x00\x00",
		},
		{
			api.Undo{Kind: api.UndoUpdate, Tx: 0x01020304, No: 0x05060708, Prev: 0x090A, Page: 0x0B, Slot: 0x0C, Row: api.Row{Key: -1, Dead: true, Writer: 0x0D0E0F10, Roll: api.Roll{Cell: 0x1112, No: 0x13141516}}},
			"\x02\x01\x02\x03\x04\x05\x06\x07\x08\x09\x0A\x0B\x0C\x14\x01\xBF\xF0\x00\x00\x00\x00\x00\x00\x0D\x0E\x0F\x10\x11\x12\x13\x14\x15\x16\x00",
		},
		{
			api.Undo{Kind: api.UndoUpdate, Tx: most, No: most, Prev: 65535, Page: 255, Slot: 255, Row: api.Row{Key: nan, Cols: []float64{math.Inf(1), signed, nan, -2}, Writer: most, Roll: api.Roll{Cell: 65535, No: most}}},
			"\x02\x7F\xFF\xFF\xFF\x7F\xFF\xFF\xFF\xFF\xFF\xFF\xFF\x34\x00\x7F\xF8\x00\x00\x00\x00\x00\x01\x7F\xFF\xFF\xFF\xFF\xFF\x7F\xFF\xFF\xFF\x04" +
				"\x7F\xF0\x00\x00\x00\x00\x00\x00\x80\x00\x00\x00\x00\x00\x00\x00\x7F\xF8\x00\x00\x00\x00\x00\x01\xC0\x00\x00\x00\x00\x00\x00\x00",
		},
	}
}

// Un1: undoings whose bytes are written down: the chapter's example, of 14 bytes; Un2: one that has just 66.
func TestEncodeKnown(t *testing.T) {
	known := knownUndos()
	if first, last := len(known[0].b), len(known[len(known)-1].b); first != 14 || last != 66 {
		t.Fatalf("%d and %d bytes", first, last)
	}
	for _, c := range known {
		if b, e := Encode(c.u); e != api.OK || string(b) != c.b {
			t.Errorf("Encode(%s) = %X, error %d, not %X", tell(c.u), b, e, c.b)
		}
		if u, e := Decode([]byte(c.b)); e != api.OK || !alike(u, c.u) {
			t.Errorf("Decode(%X) = %s, error %d, not %s", c.b, tell(u), e, tell(c.u))
		}
	}
}

// Un1: an undoing's bytes by the chapter's words; Un2: that they are the undoing's again, and how many there are at most.
func TestEncodeAndBack(t *testing.T) {
	longest := 0
	for _, u := range goodUndos() {
		b, e := Encode(u)
		if e != api.OK || !bytes.Equal(b, bytesOf(u)) {
			t.Errorf("Encode(%s) = %X, error %d, not %X", tell(u), b, e, bytesOf(u))
		}
		if u.Kind == 1 && len(b) != 14 || u.Kind == 2 && len(b) != 34+8*len(u.Row.Cols) {
			t.Errorf("%s has %d bytes", tell(u), len(b))
		}
		longest = max(longest, len(b))
		x, e := Decode(b)
		if e != api.OK || !alike(x, u) || !Same(x, u) {
			t.Errorf("Decode of %s: %s, error %d", tell(u), tell(x), e)
		}
	}
	if longest != 66 {
		t.Errorf("the longest one has %d bytes", longest)
	}
}

// Un1: no bytes of an undoing that may not be, nor of the zero one.
func TestEncodeWrong(t *testing.T) {
	for _, u := range badUndos() {
		if b, e := Encode(u); e != api.ErrArg || len(b) != 0 {
			t.Errorf("Encode(%s) = %X, error %d", tell(u), b, e)
		}
	}
}

func wantNone(t *testing.T, b []byte) {
	t.Helper()
	if _, is := slowDecode(b); is {
		t.Fatalf("%.100X are an undoing's bytes", b)
	}
	if u, e := Decode(b); e != api.ErrText || !alike(u, api.Undo{}) {
		t.Errorf("Decode(%.100X) = %s, error %d", b, tell(u), e)
	}
}

// wantBytes holds Decode against the chapter's words, and tells whether the bytes are an undoing's.
func wantBytes(t *testing.T, b []byte) bool {
	t.Helper()
	want, is := slowDecode(b)
	why := api.ErrText
	if is {
		why = api.OK
	}
	if u, e := Decode(b); e != why || !alike(u, want) {
		t.Fatalf("Decode(%.100X) = %s, error %d, not %s, %d", b, tell(u), e, tell(want), why)
	}
	return is
}

// Un1: too few bytes, cut at each place, and too many. The room behind a list's end is none of its bytes.
func TestDecodeLength(t *testing.T) {
	wantNone(t, nil)
	wantNone(t, []byte{})
	for _, u := range plain() {
		b := bytesOf(u)
		for n := range b {
			wantNone(t, b[:n])
			wantNone(t, bytes.Clone(b[:n]))
		}
		for _, more := range []int{1, 2, 8, 20, 52, 1000} {
			wantNone(t, append(bytes.Clone(b), make([]byte, more)...))
			wantNone(t, append(bytes.Clone(b), bytes.Repeat([]byte{0xFF}, more)...))
		}
		wantNone(t, append(bytes.Clone(b), b...))
	}
	wantNone(t, make([]byte, 14))
	wantNone(t, make([]byte, 34))
	wantNone(t, make([]byte, 70000))
}

// put is bytes with others laid over them.
func put(b []byte, at int, over ...byte) []byte {
	b = bytes.Clone(b)
	copy(b[at:], over)
	return b
}

// Un1: bytes of which one part is out of its bounds.
func TestDecodeParts(t *testing.T) {
	for _, u := range plain() {
		b := bytesOf(u)
		for k := range 256 {
			if k != u.Kind {
				wantNone(t, put(b, 0, byte(k)))
			}
		}
		for _, at := range []int{1, 5} { // Tx and No
			for _, n := range []uint32{0, most + 1, most + 2, 1<<31 + 5, 0xFFFFFFFF} {
				wantNone(t, put(b, at, binary.BigEndian.AppendUint32(nil, n)...))
			}
			wantNone(t, put(b, at, b[at]|0x80))
		}
		for n := range 256 { // the length of the row's text
			if n != len(b)-14 {
				wantNone(t, put(b, 13, byte(n)))
			}
		}
	}
}

// Un1: an insert with a row's bytes, and an update with none, with too many, or with those of no row.
func TestDecodeRow(t *testing.T) {
	insert, update := plain()[1], plain()[len(plain())-1]
	for _, r := range rows() {
		b := rowBytes(r)
		wantNone(t, laid(insert, b))
		for n := range b {
			wantNone(t, laid(insert, b[n:]))
			wantNone(t, laid(update, b[:n]))
		}
		for _, more := range []int{1, 7, 8, 9, 60, 200} {
			wantNone(t, laid(update, append(bytes.Clone(b), make([]byte, more)...)))
		}
		if !wantBytes(t, laid(update, b)) {
			t.Errorf("the row %s has other bytes here", tellRow(r))
		}
	}
	wantNone(t, laid(insert, []byte{0}))
	wantNone(t, laid(update, nil))
	wantNone(t, laid(update, []byte("no row")))
	wantNone(t, laid(update, make([]byte, 255)))
}

// Un1: a row that is written in another way than Encode writes it: dead by another number, another nought or NaN, a number with no cell, columns of a dead row, a first bit that is set.
func TestDecodeOtherWay(t *testing.T) {
	update := plain()[len(plain())-1]
	for _, r := range rows() {
		b := rowBytes(r)
		for n := 2; n <= 255; n++ {
			wantNone(t, laid(update, put(b, 0, byte(n))))
		}
		for _, x := range []uint64{minusNo, theNaN - 1, theNaN + 1, theNaN | minusNo, 0x7FF0000000000001, 1<<64 - 1} {
			wantNone(t, laid(update, put(b, 1, binary.BigEndian.AppendUint64(nil, x)...)))
			for i := range r.Cols {
				if x != minusNo { // a column has its sign
					wantNone(t, laid(update, put(b, 20+8*i, binary.BigEndian.AppendUint64(nil, x)...)))
				}
			}
		}
		wantNone(t, laid(update, put(b, 9, b[9]|0x80)))
		wantNone(t, laid(update, put(put(b, 13, 1, 1), 15, b[15]|0x80)))
		wantNone(t, laid(update, put(put(b, 13, 0, 0), 15, 0, 0, 0, 1)))
		wantNone(t, laid(update, append(put(b, 19, byte(len(r.Cols)+5)), make([]byte, 40)...)))
		if len(r.Cols) > 0 {
			wantNone(t, laid(update, put(b, 0, 1)))
		}
	}
}

// Un1, Un2: bytes are an undoing's, or none's: with one of them being any other they are another undoing's, of these very bytes, or none's.
func TestDecodeTurned(t *testing.T) {
	undos, none := 0, 0
	for _, u := range plain() {
		b := bytesOf(u)
		for i := range b {
			for c := range 256 {
				x := put(b, i, byte(c))
				if !wantBytes(t, x) {
					none++
					continue
				}
				undos++
				v, _ := Decode(x)
				if again, e := Encode(v); e != api.OK || !bytes.Equal(again, x) || alike(u, v) != bytes.Equal(b, x) {
					t.Fatalf("Decode(%X) = %s, encoded: %X, error %d", x, tell(v), again, e)
				}
			}
		}
	}
	if undos < 10000 || none < 10000 {
		t.Errorf("%d undoings, %d of none: too few to tell", undos, none)
	}
}

// some is a number out of many, or at an edge.
func some(r *rand.Rand, least, most int) int {
	switch r.IntN(4) {
	case 0:
		return least + r.IntN(min(3, most-least+1))
	case 1:
		return most - r.IntN(min(3, most-least+1))
	}
	return least + r.IntN(most-least+1)
}

// strewn is bytes that are nearly an undoing's: of a few strewn parts, some of them out of their bounds.
func strewn(r *rand.Rand) []byte {
	u := api.Undo{Kind: some(r, 0, 3), Tx: some(r, 0, most), No: some(r, 0, most), Prev: some(r, 0, 65535), Page: some(r, 0, 255), Slot: some(r, 0, 255)}
	if r.IntN(3) > 0 {
		u.Kind = 1 + r.IntN(2)
	}
	text := []byte{}
	if u.Kind != 1 || r.IntN(5) == 0 {
		w := api.Row{Key: ofBits(r.Uint64()), Dead: r.IntN(3) == 0, Writer: some(r, 0, most), Roll: api.Roll{Cell: some(r, 0, 65535), No: some(r, 0, most)}}
		for range r.IntN(6) * r.IntN(2) {
			w.Cols = append(w.Cols, ofBits(r.Uint64()))
		}
		text = rowBytes(w)
	}
	b := laid(u, text)
	for range r.IntN(3) * r.IntN(2) {
		b[r.IntN(len(b))] = byte(r.Uint32())
	}
	switch r.IntN(12) {
	case 0:
		b = b[:r.IntN(len(b)+1)]
	case 1:
		b = append(b, byte(r.Uint32()))
	}
	return b
}

// Un1: strewn bytes, held against the chapter's words.
func TestDecodeStrewn(t *testing.T) {
	r := rand.New(rand.NewPCG(9, 1))
	inserts, updates, none := 0, 0, 0
	for range 200000 {
		b := strewn(r)
		switch {
		case !wantBytes(t, b):
			none++
		case b[0] == 1:
			inserts++
		default:
			updates++
		}
	}
	if inserts < 10000 || updates < 10000 || none < 10000 {
		t.Errorf("%d inserts, %d updates, %d of none: too few to tell", inserts, updates, none)
	}
}

// Un1: each field counts alone, numbers by their bits.
func TestSameFields(t *testing.T) {
	whole := api.Undo{Tx: 1, No: 2, Prev: 3, Kind: 2, Page: 4, Slot: 5, Row: api.Row{Key: 0, Cols: []float64{0, 7}, Writer: 8, Roll: api.Roll{Cell: 9, No: 10}}}
	for i, change := range []func(*api.Undo){
		func(u *api.Undo) { u.Tx = 9 },
		func(u *api.Undo) { u.No = 9 },
		func(u *api.Undo) { u.Prev = 9 },
		func(u *api.Undo) { u.Kind = 1 },
		func(u *api.Undo) { u.Page = 9 },
		func(u *api.Undo) { u.Slot = 9 },
		func(u *api.Undo) { u.Tx, u.No = 2, 1 },
		func(u *api.Undo) { u.Page, u.Slot = 5, 4 },
		func(u *api.Undo) { u.Row.Key = 1 },
		func(u *api.Undo) { u.Row.Key = ofBits(minusNo) },
		func(u *api.Undo) { u.Row.Dead = true },
		func(u *api.Undo) { u.Row.Cols = nil },
		func(u *api.Undo) { u.Row.Cols = []float64{0} },
		func(u *api.Undo) { u.Row.Cols = []float64{0, 7, 0} },
		func(u *api.Undo) { u.Row.Cols = []float64{7, 0} },
		func(u *api.Undo) { u.Row.Cols = []float64{ofBits(minusNo), 7} },
		func(u *api.Undo) { u.Row.Writer = 9 },
		func(u *api.Undo) { u.Row.Roll.Cell = 10 },
		func(u *api.Undo) { u.Row.Roll.No = 9 },
		func(u *api.Undo) { u.Row = api.Row{} },
	} {
		other := whole
		change(&other)
		if Same(whole, other) || Same(other, whole) || !Same(other, other) {
			t.Errorf("change %d: Same(%s, %s), or not with itself", i, tell(whole), tell(other))
		}
	}
	empty := api.Undo{Tx: 1, No: 1, Kind: 1, Row: api.Row{Cols: []float64{}}}
	if none := (api.Undo{Tx: 1, No: 1, Kind: 1}); !Same(empty, none) || !Same(none, empty) {
		t.Error("no columns are not no columns")
	}
}

// Un1: any two of many, those that may not be among them: part by part.
func TestSame(t *testing.T) {
	l := append(plain(), badUndos()[:150]...)
	for _, b := range []uint64{0, minusNo, 1, 1 | minusNo, theNaN - 1, theNaN, theNaN + 1, theNaN | minusNo} {
		l = append(l, api.Undo{Row: api.Row{Key: ofBits(b)}}, api.Undo{Row: api.Row{Cols: []float64{ofBits(b)}}}, api.Undo{Kind: 2, Tx: 1, No: 1, Row: api.Row{Cols: []float64{1, ofBits(b)}}})
	}
	for n := range 3 {
		for _, field := range []func(*api.Undo) *int{tx, no, prev, kind, page, slot} {
			l = append(l, strayed(api.Undo{}, field, []int{n, -n})...)
		}
	}
	same := 0
	for _, a := range l {
		for _, b := range l {
			is := Same(a, b)
			if is != alike(a, b) {
				t.Fatalf("Same(%s, %s) = %v", tell(a), tell(b), is)
			}
			if is {
				same++
			}
		}
	}
	if same <= len(l) {
		t.Error("none is alike but with itself")
	}
}

// spoil turns all of a list of bytes, and its spare room.
func spoil(b []byte) {
	b = b[:cap(b)]
	for i := range b {
		b[i] ^= 0xFF
	}
}

func spoilColumns(l []float64) {
	l = l[:cap(l)]
	for i := range l {
		l[i] = -99.5
	}
}

// R3: the columns that are handed in are left, with what lies behind their end, and the bytes share nothing with them or with each other.
func TestEncodeMemory(t *testing.T) {
	for n := range 7 { // more than four may not be
		room := []float64{1, 2, 3, 4, 5, 6}
		u := api.Undo{Tx: 1, No: 2, Kind: 2, Row: api.Row{Key: 7, Cols: room[:n], Writer: 8}}
		was := tell(u)
		a, _ := Encode(u)
		b, _ := Encode(u)
		told := bytes.Clone(b)
		Check(u)
		Same(u, u)
		spoil(a)
		if !slices.Equal(room, []float64{1, 2, 3, 4, 5, 6}) || tell(u) != was {
			t.Errorf("what was handed in has changed: %s, %v", tell(u), room)
		}
		spoilColumns(room)
		if !bytes.Equal(b, told) {
			t.Errorf("bytes have changed with others, or with the columns: %X", b)
		}
	}
}

// R3: the bytes that are handed in are left, with what lies behind their end, and the undoing shares nothing with them or with another one.
func TestDecodeMemory(t *testing.T) {
	for _, u := range plain() {
		b := bytesOf(u)
		for _, cut := range []int{0, 1} { // with one less they are none's
			long := append(bytes.Clone(b), "behind the end"...)
			was := bytes.Clone(long)
			x, _ := Decode(long[:len(b)-cut])
			y, _ := Decode(long[:len(b)-cut])
			told := tell(y)
			spoilColumns(x.Row.Cols)
			if !bytes.Equal(long, was) {
				t.Errorf("Decode has changed what it was given: %X", long)
			}
			spoil(long)
			if tell(y) != told || cut == 0 && !alike(y, u) {
				t.Errorf("an undoing has changed with another one, or with its bytes: %s", tell(y))
			}
		}
	}
}

// R4: asked again, behind an error too, the same is told.
func TestAgain(t *testing.T) {
	for _, u := range plain() {
		a, _ := Encode(u)
		x, e := Decode(a)
		wantNone(t, nil)
		Encode(api.Undo{Tx: -1})
		Check(api.Undo{})
		b, _ := Encode(u)
		y, f := Decode(b)
		if !bytes.Equal(a, b) || e != f || !alike(x, y) || Check(u) != api.OK {
			t.Errorf("%s: two answers", tell(u))
		}
	}
}
