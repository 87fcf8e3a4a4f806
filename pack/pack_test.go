package pack

import (
	"bytes"
	"encoding/binary"
	"fmt"
	"math"
	"slices"
	"strings"
	"testing"

	"humus/api"
)

const (
	theNaN  = 0x7FF8000000000001
	minusNo = 1 << 63 // the bits of the 0 with a sign
)

func ofBits(b uint64) float64 { return math.Float64frombits(b) }

func aByte(n int) api.Item      { return api.Item{Kind: api.ItemByte, N: n} }
func aTwo(n int) api.Item       { return api.Item{Kind: api.ItemTwo, N: n} }
func aFour(n int) api.Item      { return api.Item{Kind: api.ItemFour, N: n} }
func aNum(bits uint64) api.Item { return api.Item{Kind: api.ItemNum, X: ofBits(bits)} }
func aText(s string) api.Item   { return api.Item{Kind: api.ItemText, S: s} }
func tell(i api.Item) string {
	return fmt.Sprintf("{%d %d %016X %q}", i.Kind, i.N, math.Float64bits(i.X), i.S)
}
func isNaNBits(bits uint64) bool { return bits&^minusNo > 0x7FF0000000000000 }

func tellAll(l []api.Item) string {
	s := []string{}
	for _, i := range l {
		s = append(s, tell(i))
	}
	return strings.Join(s, " ")
}

// valueBits goes by layer 1's words: of any NaN the one's bits, of all others themselves.
func valueBits(bits uint64) uint64 {
	if isNaNBits(bits) {
		return theNaN
	}
	return bits
}

// numbers are the bits of both zeros, the least and the greatest ones of each sort, the infinite ones, NaNs of both signs, quiet and signalling, and their neighbours.
func numbers() []uint64 {
	l := []uint64{}
	for _, b := range []uint64{
		0, 1, 2, 0x000FFFFFFFFFFFFF, 0x0010000000000000, 0x3FF0000000000000, 0x3FF0000000000001, 0x0102030405060708,
		0x7FEFFFFFFFFFFFFF, 0x7FF0000000000000, 0x7FF0000000000001, 0x7FF7FFFFFFFFFFFF,
		0x7FF8000000000000, theNaN, 0x7FF8000000000002, 0x7FFFFFFFFFFFFFFF,
	} {
		l = append(l, b, b|minusNo)
	}
	return l
}

// good are items of each kind that may be, at the edges and between.
func good() []api.Item {
	l := []api.Item{
		aByte(0), aByte(1), aByte(0x7F), aByte(0x80), aByte(0xFE), aByte(0xFF),
		aTwo(0), aTwo(1), aTwo(0xFF), aTwo(0x100), aTwo(258), aTwo(0x7FFF), aTwo(0x8000), aTwo(0xFFFF),
		aFour(0), aFour(1), aFour(0xFF), aFour(0xFFFF), aFour(0x10000), aFour(0x01020304), aFour(1<<31 - 2), aFour(1<<31 - 1),
		aText(""), aText("a"), aText("\x00"), aText("\xFF\xFE"), aText("a\nb"), aText("ä€"),
		aText(strings.Repeat("x", 127)), aText(strings.Repeat("y", 128)), aText(strings.Repeat("z", 254)), aText(strings.Repeat("\x80", 255)),
	}
	for _, b := range numbers() {
		l = append(l, aNum(b))
	}
	return l
}

// bad are items that may not be: out of their kind's bounds, with a part that their kind does not have, or of no kind.
func bad() []api.Item {
	l := []api.Item{
		aByte(-1), aByte(256), aByte(math.MaxInt), aByte(math.MinInt), aByte(0x100000000),
		aTwo(-1), aTwo(65536), aTwo(math.MaxInt), aTwo(math.MinInt), aTwo(0x100000001),
		aFour(-1), aFour(1 << 31), aFour(1<<32 - 1), aFour(1 << 32), aFour(math.MaxInt), aFour(math.MinInt),
		aText(strings.Repeat("x", 256)), aText(strings.Repeat("x", 257)), aText(strings.Repeat("x", 512)), aText(strings.Repeat("ä", 128)), aText(strings.Repeat("x", 70000)),
	}
	for _, i := range []api.Item{aByte(0), aByte(7), aTwo(0), aTwo(7), aFour(0), aFour(7)} {
		l = slices.Concat(l, withX(i), withText(i))
	}
	for _, n := range []int{-1, 1, 255, math.MaxInt, math.MinInt} {
		for _, i := range []api.Item{aNum(0), aNum(theNaN), aNum(0x3FF0000000000000), aText(""), aText("a")} {
			i.N = n
			l = append(l, i)
		}
	}
	l = slices.Concat(l, withText(aNum(0)), withText(aNum(theNaN)), withX(aText("")), withX(aText("a")))
	for _, k := range noKinds() {
		l = append(l, api.Item{Kind: k}, api.Item{Kind: k, N: 1}, api.Item{Kind: k, X: 1}, api.Item{Kind: k, S: "a"})
	}
	return l
}

func noKinds() []int {
	return []int{0, 6, 7, 255, 257, -1, -2, -5, 1<<32 + 1, math.MaxInt, math.MinInt}
}

// withX is an item with each number that is not the 0 without a sign.
func withX(i api.Item) []api.Item {
	l := []api.Item{}
	for _, b := range numbers() {
		if b != 0 {
			i.X = ofBits(b)
			l = append(l, i)
		}
	}
	return l
}

func withText(i api.Item) []api.Item {
	l := []api.Item{}
	for _, s := range []string{"a", "\x00", strings.Repeat("x", 255)} {
		i.S = s
		l = append(l, i)
	}
	return l
}

// bytesOf goes by the chapter's words, for an item that may be.
func bytesOf(i api.Item) []byte {
	switch i.Kind {
	case api.ItemByte:
		return []byte{byte(i.N)}
	case api.ItemTwo:
		return binary.BigEndian.AppendUint16(nil, uint16(i.N))
	case api.ItemFour:
		return binary.BigEndian.AppendUint32(nil, uint32(i.N))
	case api.ItemNum:
		return binary.BigEndian.AppendUint64(nil, valueBits(math.Float64bits(i.X)))
	}
	return []byte(string([]byte{byte(len(i.S))}) + i.S)
}

func rowOf(l []api.Item) []byte {
	b := []byte{}
	for _, i := range l {
		b = append(b, bytesOf(i)...)
	}
	return b
}

func kindsOf(l []api.Item) []int {
	k := []int{}
	for _, i := range l {
		k = append(k, i.Kind)
	}
	return k
}

// alike goes part by part, numbers by their bits.
func alike(a, b api.Item) bool { return tell(a) == tell(b) }

// valued is an item with its number's value.
func valued(i api.Item) api.Item {
	i.X = ofBits(valueBits(math.Float64bits(i.X)))
	return i
}

// seed is strewn numbers, one behind the other.
type seed uint64

func (s *seed) below(n int) int {
	*s = *s*0x5851F42D4C957F2D + 0x14057B7EF767814F
	return int(uint64(*s) >> 33 % uint64(n))
}

func (s *seed) items(n int) []api.Item {
	from := good()
	l := []api.Item{}
	for range n {
		l = append(l, from[s.below(len(from))])
	}
	return l
}

// lists are rows of no items, of each one alone, of all, and strewn ones of few and many.
func lists() [][]api.Item {
	l := [][]api.Item{nil, {}, good()}
	for _, i := range good() {
		l = append(l, []api.Item{i})
	}
	s := seed(1)
	for n := range 60 {
		l = append(l, s.items(n))
	}
	return append(l, s.items(3000))
}

// Pk1: what each kind may be, and what it may not.
func TestCheck(t *testing.T) {
	for _, i := range good() {
		if e := Check(i); e != api.OK {
			t.Errorf("Check(%s) = %d", tell(i), e)
		}
	}
	for _, i := range bad() {
		if e := Check(i); e != api.ErrArg {
			t.Errorf("Check(%.60s) = %d", tell(i), e)
		}
	}
}

// Pk1: each N of one and of two bytes, and each length of a text.
func TestCheckAll(t *testing.T) {
	for n := -300; n <= 70000; n++ {
		for _, c := range []struct {
			i   api.Item
			max int
		}{{aByte(n), 255}, {aTwo(n), 65535}, {aFour(n), 1<<31 - 1}} {
			if is, want := Check(c.i) == api.OK, n >= 0 && n <= c.max; is != want {
				t.Fatalf("%s may be: %v", tell(c.i), is)
			}
		}
	}
	for n := range 600 {
		if is := Check(aText(strings.Repeat("t", n))) == api.OK; is != (n <= 255) {
			t.Fatalf("a text of %d bytes may be: %v", n, is)
		}
	}
}

// Pk1: the chapter's example, and rows that are written down.
func TestPutKnown(t *testing.T) {
	for _, c := range []struct {
		l   []api.Item
		row string
	}{
		{[]api.Item{aTwo(258), aText("a")}, "\x01\x02\x01a"},
		{nil, ""},
		{[]api.Item{}, ""},
		{[]api.Item{aByte(0)}, "\x00"},
		{[]api.Item{aByte(255), aByte(7)}, "\xFF\x07"},
		{[]api.Item{aTwo(1)}, "\x00\x01"},
		{[]api.Item{aTwo(65535)}, "\xFF\xFF"},
		{[]api.Item{aFour(0x01020304)}, "\x01\x02\x03\x04"},
		{[]api.Item{aFour(1<<31 - 1)}, "\x7F\xFF\xFF\xFF"},
		{[]api.Item{aText("")}, "\x00"},
		{[]api.Item{aText("ab"), aText(""), aText("c")}, "\x02ab\x00\x01c"},
		{[]api.Item{aText(strings.Repeat("x", 255))}, "\xFF" + strings.Repeat("x", 255)},
		{[]api.Item{{Kind: api.ItemNum, X: 1}}, "\x3F\xF0\x00\x00\x00\x00\x00\x00"},
		{[]api.Item{{Kind: api.ItemNum, X: -2}}, "\xC0\x00\x00\x00\x00\x00\x00\x00"},
		{[]api.Item{aNum(0x0102030405060708)}, "\x01\x02\x03\x04\x05\x06\x07\x08"},
		{[]api.Item{aNum(0)}, "\x00\x00\x00\x00\x00\x00\x00\x00"},
		{[]api.Item{aNum(minusNo)}, "\x80\x00\x00\x00\x00\x00\x00\x00"},
		{[]api.Item{{Kind: api.ItemNum, X: math.Inf(1)}}, "\x7F\xF0\x00\x00\x00\x00\x00\x00"},
		{[]api.Item{{Kind: api.ItemNum, X: math.Inf(-1)}}, "\xFF\xF0\x00\x00\x00\x00\x00\x00"},
		{[]api.Item{{Kind: api.ItemNum, X: math.NaN()}}, "\x7F\xF8\x00\x00\x00\x00\x00\x01"},
		{[]api.Item{aNum(0xFFFFFFFFFFFFFFFF)}, "\x7F\xF8\x00\x00\x00\x00\x00\x01"},
		{[]api.Item{aNum(0x7FF8000000000000), aByte(3)}, "\x7F\xF8\x00\x00\x00\x00\x00\x01\x03"},
		{[]api.Item{aNum(0x7FF0000000000001)}, "\x7F\xF8\x00\x00\x00\x00\x00\x01"},
	} {
		if b, e := Put(c.l); e != api.OK || string(b) != c.row {
			t.Errorf("Put(%s) = %X, error %d, not %X", tellAll(c.l), b, e, c.row)
		}
	}
}

// Pk1: rows of no items, of each one, and of many.
func TestPutByTheWords(t *testing.T) {
	for _, l := range lists() {
		if b, e := Put(l); e != api.OK || !bytes.Equal(b, rowOf(l)) {
			t.Errorf("Put of %d items: %.40X.., error %d, not %.40X..", len(l), b, e, rowOf(l))
		}
	}
}

// Pk1: one item that may not be, at any place, and nothing beside the error.
func TestPutWrong(t *testing.T) {
	for _, i := range bad() {
		for at := range 3 {
			l := []api.Item{aTwo(258), aText("a")}
			l = slices.Insert(l, at, i)
			if b, e := Put(l); e != api.ErrArg || len(b) != 0 {
				t.Errorf("Put with %.60s at %d: %X, error %d", tell(i), at, b, e)
			}
		}
		if b, e := Put([]api.Item{i}); e != api.ErrArg || len(b) != 0 {
			t.Errorf("Put of %.60s alone: %X, error %d", tell(i), b, e)
		}
	}
	l := append(good(), aByte(256))
	if b, e := Put(l); e != api.ErrArg || len(b) != 0 {
		t.Errorf("the last of many may not be: %d bytes, error %d", len(b), e)
	}
}

// Pk1: all parts count, the number by its bits; of items that may not be, too.
func TestSame(t *testing.T) {
	l := append(good(), bad()...)
	for x, a := range l {
		for y, b := range l {
			if is, want := Same(a, b), alike(a, b); is != want {
				t.Fatalf("Same(%.60s, %.60s) = %v (%d and %d)", tell(a), tell(b), is, x, y)
			}
		}
	}
	nought, signed := aNum(0), aNum(minusNo)
	if Same(nought, signed) || !Same(signed, signed) || !Same(aNum(theNaN), aNum(theNaN)) || Same(aNum(theNaN), aNum(0x7FF8000000000000)) {
		t.Error("numbers are not held against each other by their bits")
	}
	whole := api.Item{Kind: api.ItemText, N: 1, X: 2, S: "s"}
	for _, other := range []api.Item{
		{Kind: api.ItemNum, N: 1, X: 2, S: "s"}, {Kind: api.ItemText, N: 2, X: 2, S: "s"},
		{Kind: api.ItemText, N: 1, X: 3, S: "s"}, {Kind: api.ItemText, N: 1, X: 2, S: "t"}, {Kind: api.ItemText, N: 1, X: 2, S: "s "}, {},
	} {
		if Same(whole, other) || Same(other, whole) || !Same(other, other) {
			t.Errorf("Same(%s, %s), or not with itself", tell(whole), tell(other))
		}
	}
}

// Pk2: rows that are written down, and bytes behind what is taken, which are left.
func TestTakeKnown(t *testing.T) {
	for _, c := range []struct {
		row   string
		kinds []int
		l     []api.Item
		took  int
	}{
		{"\x01\x02\x01a", []int{api.ItemTwo, api.ItemText}, []api.Item{aTwo(258), aText("a")}, 4},
		{"\x01\x02\x01a", []int{api.ItemTwo}, []api.Item{aTwo(258)}, 2},
		{"\x01\x02\x01a", []int{api.ItemByte, api.ItemByte, api.ItemByte, api.ItemByte}, []api.Item{aByte(1), aByte(2), aByte(1), aByte('a')}, 4},
		{"\x01\x02\x01a", []int{api.ItemFour}, []api.Item{aFour(0x01020161)}, 4},
		{"\x01\x02\x01a", []int{api.ItemText, api.ItemText}, []api.Item{aText("\x02"), aText("a")}, 4},
		{"\x01\x02\x01a", nil, nil, 0},
		{"", []int{}, nil, 0},
		{"\x00", []int{api.ItemText}, []api.Item{aText("")}, 1},
		{"\x00\xFF", []int{api.ItemText, api.ItemByte}, []api.Item{aText(""), aByte(255)}, 2},
		{"\x02\xFF\x00\x07", []int{api.ItemText}, []api.Item{aText("\xFF\x00")}, 3},
		{"\x7F\xFF\xFF\xFF\x80", []int{api.ItemFour}, []api.Item{aFour(1<<31 - 1)}, 4},
		{"\xFF\xFF\xFF", []int{api.ItemTwo, api.ItemByte}, []api.Item{aTwo(65535), aByte(255)}, 3},
		{"\x80\x00\x00\x00\x00\x00\x00\x00", []int{api.ItemNum}, []api.Item{aNum(minusNo)}, 8},
		{"\x01\x02\x03\x04\x05\x06\x07\x08\x09", []int{api.ItemNum}, []api.Item{aNum(0x0102030405060708)}, 8},
		{"\x7F\xF8\x00\x00\x00\x00\x00\x01", []int{api.ItemNum}, []api.Item{aNum(theNaN)}, 8},
	} {
		l, took, e := Take([]byte(c.row), c.kinds)
		if e != api.OK || took != c.took || !slices.EqualFunc(l, c.l, alike) {
			t.Errorf("Take(%X, %v) = %s, %d, error %d", c.row, c.kinds, tellAll(l), took, e)
		}
	}
}

// Pk3: what is put is taken, with the value of X; and how many bytes that took (Pk2), whatever lies behind.
func TestPutIsTaken(t *testing.T) {
	for _, l := range lists() {
		b, _ := Put(l)
		for _, behind := range []string{"", "\x00", "\xFF\xFF\xFF\xFF\xFF\xFF\xFF\xFF\xFF"} {
			x, took, e := Take([]byte(string(b)+behind), kindsOf(l))
			if e != api.OK || took != len(b) || len(x) != len(l) {
				t.Fatalf("%d items, %d bytes and %d: %d items, %d bytes, error %d", len(l), len(b), len(behind), len(x), took, e)
			}
			for i := range l {
				if !alike(x[i], valued(l[i])) {
					t.Errorf("%s was put, %s is taken", tell(l[i]), tell(x[i]))
				}
			}
		}
	}
}

func wantNothing(t *testing.T, b []byte, kinds []int, want api.Errno) {
	t.Helper()
	if l, took, e := Take(b, kinds); e != want || took != 0 || len(l) != 0 {
		t.Errorf("Take(%.40X, %v): %d items, %d bytes, error %d, not %d", b, kinds, len(l), took, e, want)
	}
}

// Pk2: bytes that are too few, cut at each place of each row.
func TestTakeShort(t *testing.T) {
	for _, l := range lists() {
		b := rowOf(l)
		if len(b) > 3000 {
			b = b[:3000]
		}
		for n := range b {
			wantNothing(t, b[:n], kindsOf(l), api.ErrText)
		}
	}
	for k := api.ItemByte; k <= api.ItemText; k++ {
		wantNothing(t, nil, []int{k}, api.ErrText)
		wantNothing(t, []byte{}, []int{k}, api.ErrText)
		wantNothing(t, []byte("\x01\x02\x01a"), []int{api.ItemTwo, api.ItemText, k}, api.ErrText)
	}
	wantNothing(t, []byte{1}, []int{api.ItemText}, api.ErrText)
	wantNothing(t, append([]byte{255}, make([]byte, 254)...), []int{api.ItemText}, api.ErrText)
	wantNothing(t, []byte{0}, []int{api.ItemText, api.ItemText}, api.ErrText)
	wantNothing(t, make([]byte, 999), slices.Repeat([]int{api.ItemByte}, 1000), api.ErrText)
}

// Pk2: the room behind a list's end is none of its bytes.
func TestTakeShortWithRoom(t *testing.T) {
	room := []byte("\x01\x02\x01a")
	for n := range room {
		wantNothing(t, room[:n], []int{api.ItemTwo, api.ItemText}, api.ErrText)
	}
}

// Pk2: an ItemFour above 2^31 - 1, alone, ahead and behind.
func TestTakeFour(t *testing.T) {
	for _, n := range []uint32{1 << 31, 1<<31 + 1, 0xFFFFFFFF, 0x80FFFFFF, 0xC0000000} {
		b := binary.BigEndian.AppendUint32(nil, n)
		wantNothing(t, b, []int{api.ItemFour}, api.ErrText)
		wantNothing(t, append(b, 1), []int{api.ItemFour, api.ItemByte}, api.ErrText)
		wantNothing(t, append([]byte{1}, b...), []int{api.ItemByte, api.ItemFour}, api.ErrText)
	}
	for _, n := range []uint32{0, 1, 1<<31 - 1, 1<<31 - 2, 0x7F000000} {
		l, took, e := Take(binary.BigEndian.AppendUint32(nil, n), []int{api.ItemFour})
		if e != api.OK || took != 4 || len(l) != 1 || !alike(l[0], aFour(int(n))) {
			t.Errorf("an ItemFour of %d: %s, %d, error %d", n, tellAll(l), took, e)
		}
	}
}

// Pk2: bits that are a value's, and those that are not: all NaNs but the one.
func TestTakeNum(t *testing.T) {
	bits := numbers()
	for i := range 64 {
		bits = append(bits, 1<<i, theNaN^1<<i, 0x7FF0000000000000|1<<i, 0xFFF0000000000000|1<<i)
	}
	for _, n := range bits {
		b := binary.BigEndian.AppendUint64(nil, n)
		if valueBits(n) != n {
			wantNothing(t, b, []int{api.ItemNum}, api.ErrText)
			wantNothing(t, append(b, 1), []int{api.ItemNum, api.ItemByte}, api.ErrText)
			wantNothing(t, append([]byte{1}, b...), []int{api.ItemByte, api.ItemNum}, api.ErrText)
			continue
		}
		l, took, e := Take(b, []int{api.ItemNum})
		if e != api.OK || took != 8 || len(l) != 1 || !alike(l[0], aNum(n)) {
			t.Errorf("a number of bits %016X: %s, %d, error %d", n, tellAll(l), took, e)
		}
	}
}

// Pk2: a kind that is none, at each place; it goes ahead of bytes that can't be read.
func TestTakeKinds(t *testing.T) {
	rows := [][]byte{
		nil, {}, {1}, []byte("\x01\x02\x01a"), make([]byte, 64),
		bytes.Repeat([]byte{0xFF}, 300), // no ItemFour, and no value's bits
	}
	for _, k := range noKinds() {
		for _, b := range rows {
			wantNothing(t, b, []int{k}, api.ErrArg)
			for first := api.ItemByte; first <= api.ItemText; first++ {
				wantNothing(t, b, []int{first, k}, api.ErrArg)
				wantNothing(t, b, []int{k, first}, api.ErrArg)
				wantNothing(t, b, []int{first, k, first}, api.ErrArg)
			}
		}
	}
}

// Pk3: nothing else is taken so: what is taken may be, and put again it is the very bytes that it took.
func TestTakenIsPut(t *testing.T) {
	s := seed(2)
	taken := 0
	for range 20000 {
		b := make([]byte, s.below(40))
		for i := range b {
			b[i] = byte(s.below(256) & s.below(256)) // few bits, so that more texts are short enough
		}
		kinds := make([]int, s.below(6))
		for i := range kinds {
			kinds[i] = api.ItemByte + s.below(5)
		}
		l, took, e := Take(b, kinds)
		if e != api.OK {
			continue
		}
		taken++
		again, e := Put(l)
		if e != api.OK || took > len(b) || !bytes.Equal(again, b[:took]) || !slices.Equal(kindsOf(l), kinds) {
			t.Fatalf("Take(%X, %v) = %s, %d; put again: %X, error %d", b, kinds, tellAll(l), took, again, e)
		}
	}
	if taken < 2000 {
		t.Errorf("only %d rows could be taken: too few to tell", taken)
	}
}

// Pk3: a row with one bit turned is another one, or none.
func TestTurned(t *testing.T) {
	for _, l := range lists()[:80] {
		b, _ := Put(l)
		was, _, _ := Take(b, kindsOf(l))
		for i := range min(8*len(b), 2000) {
			c := bytes.Clone(b)
			c[i/8] ^= 0x80 >> (i % 8)
			if now, took, e := Take(c, kindsOf(l)); e == api.OK && took == len(b) && slices.EqualFunc(now, was, alike) {
				t.Fatalf("%X and %X are taken for the same", b, c)
			}
		}
	}
}

// spoil turns all of a list of bytes, and its spare room.
func spoil(b []byte) {
	b = b[:cap(b)]
	for i := range b {
		b[i] ^= 0xFF
	}
}

func spoilItems(l []api.Item) {
	l = l[:cap(l)]
	for i := range l {
		l[i] = api.Item{Kind: -9, N: -9, X: -9, S: "spoilt"}
	}
}

// Pk1, with R3: Put leaves what it is given, and what lies behind its end; answers share nothing.
func TestPutMemory(t *testing.T) {
	room := append(good(), bad()...)
	was := slices.Clone(room)
	for n := range len(room) + 1 {
		b, _ := Put(room[:n])
		spoil(b)
		if !slices.EqualFunc(room, was, alike) {
			t.Fatalf("of %d items that were handed in some have changed", n)
		}
	}
	l := good()
	a, _ := Put(l)
	b, _ := Put(l)
	spoil(a)
	spoilItems(l)
	if !bytes.Equal(b, rowOf(good())) {
		t.Error("a row has changed with another one, or with its items")
	}
}

// Pk2, with R3: Take leaves what it is given, and what lies behind its end; answers share nothing, texts neither.
func TestTakeMemory(t *testing.T) {
	row, kinds := rowOf(good()), kindsOf(good())
	rowWas, kindsWas := bytes.Clone(row), slices.Clone(kinds)
	for n := range len(row) + 1 {
		for _, k := range [][]int{kinds[:min(n, len(kinds))], kinds} {
			l, _, _ := Take(row[:n], k)
			spoilItems(l)
		}
		if !bytes.Equal(row, rowWas) || !slices.Equal(kinds, kindsWas) {
			t.Fatalf("%d bytes were handed in: they, the kinds, or what lies behind has changed", n)
		}
	}
	a, _, _ := Take(row, kinds)
	b, _, _ := Take(row, kinds)
	spoilItems(a)
	spoil(row)
	for i, x := range good() {
		if !alike(b[i], valued(x)) {
			t.Errorf("%s has changed with its row, or with another answer: %s", tell(x), tell(b[i]))
		}
	}
}

// R4: asked again, behind an error too, the same is told.
func TestAgain(t *testing.T) {
	for _, l := range lists() {
		a, _ := Put(l)
		wantNothing(t, nil, []int{api.ItemByte}, api.ErrText)
		wantNothing(t, nil, []int{0}, api.ErrArg)
		b, _ := Put(l)
		x, n, _ := Take(a, kindsOf(l))
		y, m, _ := Take(b, kindsOf(l))
		if !bytes.Equal(a, b) || n != m || !slices.EqualFunc(x, y, alike) {
			t.Errorf("%d items: two answers", len(l))
		}
	}
}
