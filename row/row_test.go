package row

import (
	"bytes"
	"encoding/binary"
	"fmt"
	"math"
	"slices"
	"testing"

	"humus/api"
)

const (
	theNaN  = 0x7FF8000000000001
	minusNo = 1 << 63 // the bits of the 0 with a sign
)

func ofBits(b uint64) float64 { return math.Float64frombits(b) }

func bitsOf(l []float64) []uint64 {
	b := []uint64{}
	for _, x := range l {
		b = append(b, math.Float64bits(x))
	}
	return b
}

func tell(r api.Row) string {
	return fmt.Sprintf("{%016X %v %X %d %d/%d}", math.Float64bits(r.Key), r.Dead, bitsOf(r.Cols), r.Writer, r.Roll.Cell, r.Roll.No)
}

// alike goes part by part, numbers by their bits; a list that is nil is an empty one.
func alike(a, b api.Row) bool {
	if !slices.Equal(bitsOf(a.Cols), bitsOf(b.Cols)) || math.Float64bits(a.Key) != math.Float64bits(b.Key) {
		return false
	}
	return a.Dead == b.Dead && a.Writer == b.Writer && a.Roll == b.Roll
}

// valueBits and keyBits go by layer 1's words.
func valueBits(bits uint64) uint64 {
	if bits&^minusNo > 0x7FF0000000000000 {
		return theNaN
	}
	return bits
}

func keyBits(bits uint64) uint64 {
	if bits == minusNo {
		return 0
	}
	return valueBits(bits)
}

// numbers are the bits of both noughts, the least and the greatest ones of each sort, the infinite ones, NaNs of both signs, quiet and signalling, and their neighbours.
func numbers() []uint64 {
	l := []uint64{}
	for _, b := range []uint64{
		0, 1, 2, 0x000FFFFFFFFFFFFF, 0x0010000000000000, 0x3FF0000000000000, 0x3FF0000000000001, 0x0102030405060708,
		0x7FEFFFFFFFFFFFFF, 0x7FF0000000000000, 0x7FF0000000000001, 0x7FF7FFFFFFFFFFFF,
		0x7FF8000000000000, theNaN, 0x7FF8000000000002, 0x7FFFFFFFFFFFFFFF,
	} {
		l = append(l, b, b|minusNo)
	}
	return l
}

// numbersThat are those of which something holds.
func numbersThat(holds func(bits uint64) bool) []float64 {
	l := []float64{}
	for _, b := range numbers() {
		if holds(b) {
			l = append(l, ofBits(b))
		}
	}
	return l
}

// noKeys are the 0 with a sign, and all NaNs but the one.
func keys() []float64     { return numbersThat(func(b uint64) bool { return keyBits(b) == b }) }
func noKeys() []float64   { return numbersThat(func(b uint64) bool { return keyBits(b) != b }) }
func values() []float64   { return numbersThat(func(b uint64) bool { return valueBits(b) == b }) }
func noValues() []float64 { return numbersThat(func(b uint64) bool { return valueBits(b) != b }) }

func counts() []int { return []int{0, 1, 2, 255, 256, 65535, 65536, 0x01020304, 1<<31 - 2, 1<<31 - 1} }

func noCounts() []int {
	return []int{-1, -2, 1 << 31, 1<<31 + 1, 1<<32 - 1, 1 << 32, 1<<32 + 1, math.MaxInt, math.MinInt}
}

func rolls() []api.Roll {
	l := []api.Roll{{}}
	for _, c := range []int{1, 2, 255, 256, 258, 32767, 32768, 65534, 65535} {
		for _, n := range counts() {
			l = append(l, api.Roll{Cell: c, No: n})
		}
	}
	return l
}

// noRolls are cells and numbers out of their bounds, and a number with no cell.
func noRolls() []api.Roll {
	l := []api.Roll{}
	for _, c := range []int{-1, -2, -65535, 65536, 65537, 1 << 31, 1 << 32, 1<<32 + 1, math.MaxInt, math.MinInt} {
		for _, n := range []int{0, 1, 1<<31 - 1, -1} {
			l = append(l, api.Roll{Cell: c, No: n})
		}
	}
	for _, n := range noCounts() {
		l = append(l, api.Roll{Cell: 0, No: n}, api.Roll{Cell: 1, No: n}, api.Roll{Cell: 65535, No: n})
	}
	for _, n := range counts()[1:] {
		l = append(l, api.Roll{Cell: 0, No: n})
	}
	return l
}

// plain are rows that may be: of no columns to four, and dead ones, with and without a writer and an elder one.
func plain() []api.Row {
	l := []api.Row{}
	for _, r := range []api.Row{{}, {Key: 1.5, Writer: 7, Roll: api.Roll{Cell: 3, No: 9}}, {Key: -2, Writer: 1<<31 - 1, Roll: api.Roll{Cell: 65535, No: 1<<31 - 1}}} {
		for n := range 5 {
			r.Cols = []float64{1, -2, ofBits(minusNo), ofBits(theNaN)}[:n]
			l = append(l, r)
		}
		r.Dead, r.Cols = true, nil
		l = append(l, r)
		r.Cols = []float64{}
		l = append(l, r)
	}
	return l
}

// good are rows that may be, at the edges of each part.
func good() []api.Row {
	l := plain()
	for _, r := range plain() {
		for _, k := range keys() {
			r.Key = k
			l = append(l, r)
		}
	}
	for _, r := range plain() {
		for _, n := range counts() {
			r.Writer = n
			l = append(l, r)
		}
	}
	for _, r := range plain() {
		for _, e := range rolls() {
			r.Roll = e
			l = append(l, r)
		}
	}
	for _, r := range plain() {
		for i := range r.Cols {
			for _, x := range values() {
				l = append(l, with(r, i, x))
			}
		}
	}
	return l
}

// with is a row with another column.
func with(r api.Row, i int, x float64) api.Row {
	r.Cols = slices.Clone(r.Cols)
	r.Cols[i] = x
	return r
}

// bad are rows of which one part may not be, whatever the others are.
func bad() []api.Row {
	l := []api.Row{}
	for _, r := range plain() {
		for _, k := range noKeys() {
			o := r
			o.Key = k
			l = append(l, o)
		}
		for _, n := range noCounts() {
			o := r
			o.Writer = n
			l = append(l, o)
		}
		for _, e := range noRolls() {
			o := r
			o.Roll = e
			l = append(l, o)
		}
		for _, x := range noValues() {
			for i := range r.Cols {
				l = append(l, with(r, i, x))
			}
		}
		l = append(l, badColumns(r)...)
	}
	return l
}

// badColumns is a row with too many columns, and dead with some.
func badColumns(r api.Row) []api.Row {
	l := []api.Row{}
	for _, n := range []int{1, 2, 4, 5, 6, 255, 256, 257, 260, 300} {
		r.Cols = make([]float64, n)
		r.Dead = n < 5
		l = append(l, r)
		r.Dead = true
		l = append(l, r)
	}
	return l
}

// bytesOf goes by the chapter's words, for a row that may be.
func bytesOf(r api.Row) []byte {
	b := []byte{0}
	if r.Dead {
		b[0] = 1
	}
	b = binary.BigEndian.AppendUint64(b, math.Float64bits(r.Key))
	b = binary.BigEndian.AppendUint32(b, uint32(r.Writer))
	b = binary.BigEndian.AppendUint16(b, uint16(r.Roll.Cell))
	b = binary.BigEndian.AppendUint32(b, uint32(r.Roll.No))
	b = append(b, byte(len(r.Cols)))
	for _, x := range r.Cols {
		b = binary.BigEndian.AppendUint64(b, math.Float64bits(x))
	}
	return b
}

// Ro1: rows that may be, and those that may not.
func TestCheck(t *testing.T) {
	for _, r := range good() {
		if e := Check(r); e != api.OK {
			t.Errorf("Check(%s) = %d", tell(r), e)
		}
	}
	for _, r := range bad() {
		if e := Check(r); e != api.ErrArg {
			t.Errorf("Check(%.200s) = %d", tell(r), e)
		}
	}
}

// Ro1: each cell, and each count of columns, of rows that live and dead ones.
func TestCheckAll(t *testing.T) {
	for n := -300; n <= 66000; n++ {
		r := api.Row{Key: 1, Roll: api.Roll{Cell: n, No: 5}}
		if is, want := Check(r) == api.OK, n >= 1 && n <= 65535; is != want {
			t.Fatalf("the cell %d may be: %v", n, is)
		}
		r.Roll.No = 0
		if is, want := Check(r) == api.OK, n >= 0 && n <= 65535; is != want {
			t.Fatalf("the cell %d with the number 0 may be: %v", n, is)
		}
	}
	for n := range 600 {
		for _, dead := range []bool{false, true} {
			is, want := Check(api.Row{Cols: make([]float64, n), Dead: dead}) == api.OK, n <= 4
			if dead {
				want = n == 0
			}
			if is != want {
				t.Fatalf("%d columns, dead: %v, may be: %v", n, dead, is)
			}
		}
	}
}

// Ro1: rows whose bytes are written down.
func TestEncodeKnown(t *testing.T) {
	for _, c := range []struct {
		r api.Row
		b string
	}{
		{api.Row{}, "\x00\x00\x00\x00\x00\x00\x00\x00\x00\x00\x00\x00\x00\x00\x00\x00\x00\x00\x00\x00"},
		{api.Row{Dead: true}, "\x01\x00\x00\x00\x00\x00\x00\x00\x00\x00\x00\x00\x00\x00\x00\x00\x00\x00\x00\x00"},
		{
			api.Row{Key: 1, Cols: []float64{-2, math.Copysign(0, -1)}, Writer: 0x01020304, Roll: api.Roll{Cell: 0x0506, No: 0x0708090A}},
			"\x00\x3F\xF0\x00\x00\x00\x00\x00\x00\x01\x02\x03\x04\x05\x06\x07\x08\x09\x0A\x02" +
				"\xC0\x00\x00\x00\x00\x00\x00\x00\x80\x00\x00\x00\x00\x00\x00\x00",
		},
		{
			api.Row{Key: ofBits(theNaN), Dead: true, Writer: 1<<31 - 1, Roll: api.Roll{Cell: 65535, No: 1<<31 - 1}},
			"\x01\x7F\xF8\x00\x00\x00\x00\x00\x01\x7F\xFF\xFF\xFF\xFF\xFF\x7F\xFF\xFF\xFF\x00",
		},
		{
			api.Row{Key: math.Inf(-1), Cols: []float64{ofBits(theNaN), math.Inf(1), 0, 2}},
			"\x00\xFF\xF0\x00\x00\x00\x00\x00\x00\x00\x00\x00\x00\x00\x00\x00\x00\x00\x00\x04" +
				"\x7F\xF8\x00\x00\x00\x00\x00\x01\x7F\xF0\x00\x00\x00\x00\x00\x00\x00\x00\x00\x00\x00\x00\x00\x00\x40\x00\x00\x00\x00\x00\x00\x00",
		},
	} {
		if b, e := Encode(c.r); e != api.OK || string(b) != c.b {
			t.Errorf("Encode(%s) = %X, error %d, not %X", tell(c.r), b, e, c.b)
		}
		if r, e := Decode([]byte(c.b)); e != api.OK || !alike(r, c.r) {
			t.Errorf("Decode(%X) = %s, error %d, not %s", c.b, tell(r), e, tell(c.r))
		}
	}
}

// Ro1: a row's bytes by the chapter's words; Ro3: how many there are, and that they are the row's again.
func TestEncodeAndBack(t *testing.T) {
	for _, r := range good() {
		b, e := Encode(r)
		if e != api.OK || !bytes.Equal(b, bytesOf(r)) {
			t.Errorf("Encode(%s) = %X, error %d, not %X", tell(r), b, e, bytesOf(r))
		}
		if len(b) != 20+8*len(r.Cols) {
			t.Errorf("%s has %d bytes", tell(r), len(b))
		}
		if x, e := Decode(b); e != api.OK || !alike(x, r) {
			t.Errorf("Decode of %s: %s, error %d", tell(r), tell(x), e)
		}
	}
}

// Ro1: no bytes of a row that may not be.
func TestEncodeWrong(t *testing.T) {
	for _, r := range bad() {
		if b, e := Encode(r); e != api.ErrArg || len(b) != 0 {
			t.Errorf("Encode(%.200s) = %X, error %d", tell(r), b, e)
		}
	}
}

func wantNoRow(t *testing.T, b []byte) {
	t.Helper()
	if r, e := Decode(b); e != api.ErrText || !alike(r, api.Row{}) {
		t.Errorf("Decode(%.100X) = %s, error %d", b, tell(r), e)
	}
}

// Ro1: too few bytes, cut at each place, and too many. The room behind a list's end is none of its bytes.
func TestDecodeLength(t *testing.T) {
	wantNoRow(t, nil)
	for _, r := range plain() {
		b := bytesOf(r)
		for n := range b {
			wantNoRow(t, b[:n])
			wantNoRow(t, bytes.Clone(b[:n]))
		}
		for _, more := range []int{1, 7, 8, 9, 16, 1000} {
			wantNoRow(t, append(bytes.Clone(b), make([]byte, more)...))
			wantNoRow(t, append(bytes.Clone(b), bytes.Repeat([]byte{0xFF}, more)...))
		}
		wantNoRow(t, append(bytes.Clone(b), b...))
	}
	wantNoRow(t, make([]byte, 70000))
}

// put is a row's bytes with others laid over them.
func put(b []byte, at int, over ...byte) []byte {
	b = bytes.Clone(b)
	copy(b[at:], over)
	return b
}

// Ro1: bytes of which one part is out of its bounds.
func TestDecodeParts(t *testing.T) {
	for _, r := range plain() {
		b := bytesOf(r)
		for n := 2; n <= 255; n++ { // neither dead nor alive
			wantNoRow(t, put(b, 0, byte(n)))
		}
		for _, k := range noKeys() {
			wantNoRow(t, put(b, 1, binary.BigEndian.AppendUint64(nil, math.Float64bits(k))...))
		}
		for _, n := range []uint32{1 << 31, 1<<31 + 1, 0xFFFFFFFF} {
			wantNoRow(t, put(b, 9, binary.BigEndian.AppendUint32(nil, n)...))
			wantNoRow(t, put(b, 15, binary.BigEndian.AppendUint32(nil, n)...))
			wantNoRow(t, put(put(b, 13, 0, 1), 15, binary.BigEndian.AppendUint32(nil, n)...))
		}
		for _, n := range counts()[1:] { // a number with no cell
			wantNoRow(t, put(put(b, 13, 0, 0), 15, binary.BigEndian.AppendUint32(nil, uint32(n))...))
		}
		for n := range 256 {
			if n != len(r.Cols) {
				wantNoRow(t, put(b, 19, byte(n)))
			}
		}
		for i := range r.Cols {
			for _, x := range noValues() {
				wantNoRow(t, put(b, 20+8*i, binary.BigEndian.AppendUint64(nil, math.Float64bits(x))...))
			}
		}
	}
}

// Ro1: too many columns, and columns of a dead row, with all the bytes that these have.
func TestDecodeColumns(t *testing.T) {
	for n := 1; n <= 255; n++ {
		b := append(put(bytesOf(api.Row{Key: 1}), 19, byte(n)), make([]byte, 8*n)...)
		wantNoRow(t, put(b, 0, 1))
		if n > 4 {
			wantNoRow(t, b)
		} else if r, e := Decode(b); e != api.OK || !alike(r, api.Row{Key: 1, Cols: make([]float64, n)}) {
			t.Errorf("a row of %d columns: %s, error %d", n, tell(r), e)
		}
	}
}

// Ro1, Ro3: bytes are a row's, or none's: with a bit turned they are another row's, of these very bytes, or none's.
func TestDecodeTurned(t *testing.T) {
	rows, none := 0, 0
	for _, r := range plain() {
		b := bytesOf(r)
		for i := range 8 * len(b) {
			c := bytes.Clone(b)
			c[i/8] ^= 0x80 >> (i % 8)
			x, e := Decode(c)
			if e != api.OK {
				wantNoRow(t, c)
				none++
				continue
			}
			rows++
			if again, e := Encode(x); e != api.OK || !bytes.Equal(again, c) || alike(x, r) {
				t.Fatalf("Decode(%X) = %s, encoded: %X, error %d", c, tell(x), again, e)
			}
		}
	}
	if rows < 100 || none < 100 {
		t.Errorf("%d rows, %d of none: too few to tell", rows, none)
	}
}

// Ro1: each part counts, numbers by their bits; of rows that may not be, too.
func TestSame(t *testing.T) {
	l := append(plain(), bad()[:200]...)
	for i, k := range numbers() {
		l = append(l, api.Row{Key: ofBits(k)}, api.Row{Cols: []float64{ofBits(k)}}, api.Row{Cols: []float64{1, 2, 3, ofBits(k)}}, api.Row{Writer: i}, api.Row{Roll: api.Roll{Cell: i}}, api.Row{Roll: api.Roll{No: i}})
	}
	for _, a := range l {
		for _, b := range l {
			if is, want := Same(a, b), alike(a, b); is != want {
				t.Fatalf("Same(%.200s, %.200s) = %v", tell(a), tell(b), is)
			}
		}
	}
	whole := api.Row{Key: 1, Cols: []float64{2, 3}, Writer: 4, Roll: api.Roll{Cell: 5, No: 6}}
	for i, change := range []func(*api.Row){
		func(r *api.Row) { r.Key = 9 },
		func(r *api.Row) { r.Dead = true },
		func(r *api.Row) { r.Cols = nil },
		func(r *api.Row) { r.Cols = r.Cols[:1] },
		func(r *api.Row) { r.Cols = []float64{2, 3, 0} },
		func(r *api.Row) { r.Cols = []float64{3, 2} },
		func(r *api.Row) { r.Cols = []float64{2, 4} },
		func(r *api.Row) { r.Writer = 9 },
		func(r *api.Row) { r.Roll.Cell = 9 },
		func(r *api.Row) { r.Roll.No = 9 },
	} {
		other := whole
		change(&other)
		if Same(whole, other) || Same(other, whole) || !Same(other, other) {
			t.Errorf("change %d: Same(%s, %s), or not with itself", i, tell(whole), tell(other))
		}
	}
	if !Same(api.Row{Cols: nil}, api.Row{Cols: []float64{}}) {
		t.Error("no columns are not no columns")
	}
}

// Ro2: the chapter's example.
func TestOfExample(t *testing.T) {
	r, e := Of(math.Copysign(0, -1), []float64{math.NaN()})
	if e != api.OK || !alike(r, api.Row{Key: 0, Cols: []float64{ofBits(theNaN)}}) {
		t.Errorf("Of(-0, NaN) = %s, error %d", tell(r), e)
	}
}

// Ro2: of any key and columns the key and the values, of nobody, with no elder one; such a row may be.
func TestOf(t *testing.T) {
	for i, k := range numbers() {
		for n := range 5 {
			cols, want := []float64{}, api.Row{Key: ofBits(keyBits(k))}
			for j := range n {
				x := numbers()[(i*7+j*5+n)%len(numbers())]
				cols, want.Cols = append(cols, ofBits(x)), append(want.Cols, ofBits(valueBits(x)))
			}
			r, e := Of(ofBits(k), cols)
			if e != api.OK || !alike(r, want) || Check(r) != api.OK {
				t.Errorf("Of(%016X, %v) = %s, error %d", k, cols, tell(r), e)
			}
		}
	}
	for _, x := range numbers() {
		for at := range 4 {
			cols := []float64{1, 2, 3, 4}
			cols[at] = ofBits(x)
			want := with(api.Row{Key: 5, Cols: []float64{1, 2, 3, 4}}, at, ofBits(valueBits(x)))
			if r, e := Of(5, cols); e != api.OK || !alike(r, want) {
				t.Errorf("Of(5, %v) = %s, error %d", cols, tell(r), e)
			}
		}
	}
	if r, e := Of(3, nil); e != api.OK || !alike(r, api.Row{Key: 3}) {
		t.Errorf("Of(3, nil) = %s, error %d", tell(r), e)
	}
}

// Ro2: more than four columns.
func TestOfWrong(t *testing.T) {
	for _, n := range []int{5, 6, 7, 255, 256, 257, 260, 65536, 70000} {
		for _, k := range numbers() {
			if r, e := Of(ofBits(k), make([]float64, n)); e != api.ErrArg || !alike(r, api.Row{}) {
				t.Errorf("Of(%016X, %d columns): %s, error %d", k, n, tell(r), e)
			}
		}
	}
}

// Ro2: sums that are written down.
func TestPlusKnown(t *testing.T) {
	inf, nan, no, signed := math.Inf(1), ofBits(theNaN), 0.0, math.Copysign(0, -1)
	for _, c := range []struct{ a, x, sum float64 }{
		{2, 3, 5}, {5, -7, -2}, {0.1, 0.2, 0.30000000000000004}, {1, 1e-30, 1}, {-1.5, 1.5, no},
		{no, no, no}, {no, signed, no}, {signed, no, no}, {signed, signed, signed}, {no, 4, 4}, {signed, -4, -4}, {4, signed, 4},
		{math.MaxFloat64, math.MaxFloat64, inf}, {-math.MaxFloat64, -math.MaxFloat64, -inf}, {math.MaxFloat64, 1, math.MaxFloat64},
		{inf, 1, inf}, {1, inf, inf}, {inf, inf, inf}, {-inf, -inf, -inf}, {inf, -inf, nan}, {-inf, inf, nan},
		{nan, 1, nan}, {1, nan, nan}, {nan, nan, nan}, {nan, inf, nan},
		{1, ofBits(0x7FF8000000000000), nan}, {1, ofBits(0xFFF8000000000001), nan}, {1, ofBits(0x7FF0000000000001), nan}, {nan, ofBits(0xFFFFFFFFFFFFFFFF), nan},
		{math.SmallestNonzeroFloat64, -math.SmallestNonzeroFloat64, no}, {math.SmallestNonzeroFloat64, math.SmallestNonzeroFloat64, 2 * math.SmallestNonzeroFloat64},
	} {
		for n := 1; n <= 4; n++ {
			r := api.Row{Key: 8, Cols: []float64{c.a, 9, signed, nan}[:n], Writer: 4, Roll: api.Roll{Cell: 5, No: 6}}
			if p, e := Plus(r, c.x); e != api.OK || !alike(p, with(r, 0, c.sum)) {
				t.Errorf("Plus(%s, %016X) = %s, error %d", tell(r), math.Float64bits(c.x), tell(p), e)
			}
		}
	}
}

// Ro2: the value of the sum in the first column of all rows that have one, whatever is added; all else is as it was.
func TestPlus(t *testing.T) {
	for _, r := range good() {
		if len(r.Cols) == 0 {
			continue
		}
		for _, b := range numbers() {
			x := ofBits(b)
			want := with(r, 0, ofBits(valueBits(math.Float64bits(r.Cols[0]+x))))
			if p, e := Plus(r, x); e != api.OK || !alike(p, want) || Check(p) != api.OK {
				t.Fatalf("Plus(%s, %016X) = %s, error %d", tell(r), b, tell(p), e)
			}
		}
	}
}

// Ro2: rows that may not be, dead ones, and those of no columns.
func TestPlusWrong(t *testing.T) {
	l := bad()
	for _, r := range good() {
		if len(r.Cols) == 0 {
			l = append(l, r)
		}
	}
	for _, r := range l {
		for _, x := range []float64{0, 1, math.NaN(), math.Inf(-1)} {
			if p, e := Plus(r, x); e != api.ErrArg || !alike(p, api.Row{}) {
				t.Fatalf("Plus(%.200s, %v) = %s, error %d", tell(r), x, tell(p), e)
			}
		}
	}
}

// spoil turns all of a list of bytes, and its spare room.
func spoil(b []byte) {
	b = b[:cap(b)]
	for i := range b {
		b[i] ^= 0xFF
	}
}

func spoilColumns(l []float64) {
	l = l[:cap(l)]
	for i := range l {
		l[i] = -99.5
	}
}

// Ro1, with R3: the bytes and the columns that are handed in are left, with what lies behind their ends; answers share nothing with them or with each other.
func TestBytesMemory(t *testing.T) {
	for n := range 5 {
		room := []float64{1, 2, 3, 4, 5, 6}
		r := api.Row{Key: 7, Cols: room[:n], Writer: 8}
		a, _ := Encode(r)
		b, _ := Encode(r)
		spoil(a)
		if !slices.Equal(room, []float64{1, 2, 3, 4, 5, 6}) || r.Writer != 8 {
			t.Errorf("Encode has changed what it was given: %v", room)
		}
		spoilColumns(room)
		long := append(bytes.Clone(b), "behind the end"...)
		was := bytes.Clone(long)
		x, _ := Decode(long[:len(b)])
		y, _ := Decode(long[:len(b)])
		spoilColumns(x.Cols)
		if !bytes.Equal(long, was) {
			t.Errorf("Decode has changed what it was given: %X", long)
		}
		spoil(long)
		if want := (api.Row{Key: 7, Cols: []float64{1, 2, 3, 4}[:n], Writer: 8}); !alike(y, want) {
			t.Errorf("a row has changed with another one, or with its bytes: %s", tell(y))
		}
	}
}

// Ro2, with R3: the columns that Of and Plus are handed are left, with what lies behind their end; answers share nothing with them or with each other.
func TestRowsMemory(t *testing.T) {
	for _, was := range [][]float64{{1, 2, 3, 4, 5, 6}, {ofBits(minusNo), ofBits(0x7FF8000000000000), ofBits(0xFFF8000000000001), 4, 5, 6}} {
		room := slices.Clone(was)
		for n := range len(room) + 1 {
			for i, ask := range []func() (api.Row, api.Errno){
				func() (api.Row, api.Errno) { return Of(ofBits(minusNo), room[:n]) },
				func() (api.Row, api.Errno) { return Plus(api.Row{Key: 2, Cols: room[:n]}, 4) },
			} {
				a, _ := ask()
				b, _ := ask()
				told := tell(b)
				spoilColumns(a.Cols)
				if !slices.Equal(bitsOf(room), bitsOf(was)) {
					t.Errorf("call %d has changed what it was handed: %X", i, bitsOf(room))
				}
				spoilColumns(room)
				if tell(b) != told {
					t.Errorf("call %d told %s, now it is %s", i, told, tell(b))
				}
				copy(room, was)
			}
		}
	}
}

// R4: asked again, behind an error too, the same is told.
func TestAgain(t *testing.T) {
	for _, r := range plain() {
		a, _ := Encode(r)
		x, e := Plus(r, 0.5)
		wantNoRow(t, nil)
		Encode(api.Row{Writer: -1})
		Plus(api.Row{}, 1)
		b, _ := Encode(r)
		y, f := Plus(r, 0.5)
		if !bytes.Equal(a, b) || e != f || !alike(x, y) {
			t.Errorf("%s: two answers", tell(r))
		}
	}
}
