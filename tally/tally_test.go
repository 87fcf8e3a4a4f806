package tally

import (
	"bytes"
	"testing"

	"humus/api"
)

// slowSum goes by the chapter's words bit by bit, over a register of single bits, the highest first.
func slowSum(b []byte) uint32 {
	var register, turner [32]bool
	for i := range register {
		register[i] = true
		turner[i] = 0x814141AB>>(31-i)&1 == 1
	}
	for i := range 8 * len(b) {
		bit := b[i/8]>>(7-i%8)&1 == 1
		out := register[0]
		copy(register[:], register[1:])
		register[31] = false
		if out == bit {
			continue
		}
		for k := range register {
			register[k] = register[k] != turner[k]
		}
	}
	n := uint32(0)
	for _, set := range register {
		n <<= 1
		if set {
			n |= 1
		}
	}
	return n
}

// strew is n bytes that follow from a seed.
func strew(seed uint64, n int) []byte {
	b := make([]byte, n)
	for i := range b {
		seed = seed*0x5851F42D4C957F2D + 0x14057B7EF767814F
		b[i] = byte(seed >> 56)
	}
	return b
}

// samples are no bytes, all single ones, all equal ones, and strewn ones of many lengths.
func samples() [][]byte {
	l := [][]byte{nil, {}, []byte("123456789"), bytes.Repeat([]byte{0}, 64), bytes.Repeat([]byte{0xFF}, 64)}
	for c := range 256 {
		l = append(l, []byte{byte(c)})
	}
	for n := range 70 {
		l = append(l, strew(uint64(n), n))
	}
	return append(l, strew(1, 512), strew(2, 5000))
}

func highestFirst(n uint32) []byte {
	return []byte{byte(n >> 24), byte(n >> 16), byte(n >> 8), byte(n)}
}

// Ty1: sums that are written down: the chapter's example, and few bytes, worked out by hand.
func TestSumKnown(t *testing.T) {
	for _, c := range []struct {
		b   string
		sum uint32
	}{
		{"", 0xFFFFFFFF},
		{"123456789", 0xD844F3FD},
		{"\xFF\xFF\xFF\xFF", 0},                 // all that falls out is like its bit
		{"\xFF\xFF\xFF\xFF\x01", 0x814141AB},    // one bit alone is unlike
		{"\xFF\xFF\xFF\xFF\x00\x00\x00\x00", 0}, // nothing falls out of a register without bits
	} {
		if n := Sum([]byte(c.b)); n != c.sum {
			t.Errorf("Sum(%q) = %08X, not %08X", c.b, n, c.sum)
		}
	}
}

// Ty1: of nil, no bytes, few and many.
func TestSumByTheWords(t *testing.T) {
	for _, b := range samples() {
		if n, want := Sum(b), slowSum(b); n != want {
			t.Errorf("Sum of %d bytes, %.8X..: %08X, not %08X", len(b), b, n, want)
		}
	}
}

// Ty1: a sum taken on piece by piece, cut anywhere, is that of the whole.
func TestMore(t *testing.T) {
	for _, b := range samples() {
		want := slowSum(b)
		for cut := range len(b) + 1 {
			if n := More(Sum(b[:cut]), b[cut:]); n != want {
				t.Fatalf("%d bytes, cut at %d: %08X, not %08X", len(b), cut, n, want)
			}
		}
		n := Sum(nil)
		for i := range b {
			n = More(n, b[i:i+1])
		}
		if n != want {
			t.Errorf("%d bytes one by one: %08X, not %08X", len(b), n, want)
		}
	}
}

// Ty1: no more bytes leave each sum as it is; from any sum each byte goes by the words.
func TestMoreOfAnySum(t *testing.T) {
	for _, sum := range []uint32{0, 1, 0x7FFFFFFF, 0x80000000, 0x814141AB, 0xFFFFFFFF, 0x12345678} {
		if n := More(sum, nil); n != sum {
			t.Errorf("More(%08X, nil) = %08X", sum, n)
		}
		if n := More(sum, []byte{}); n != sum {
			t.Errorf("More(%08X, no bytes) = %08X", sum, n)
		}
		if n := More(sum, highestFirst(sum)); n != 0 {
			t.Errorf("More(%08X, its own bytes) = %08X", sum, n)
		}
	}
	if n := More(0, []byte{1}); n != 0x814141AB {
		t.Errorf("More(0, 1) = %08X", n)
	}
	if n := More(0x80000000, []byte{0x80, 0}); n != 0 {
		t.Errorf("More(80000000, 80 00) = %08X", n)
	}
}

// Ty1: the sum, the highest byte first, and the bytes; opened again they are what they were.
func TestSealAndOpen(t *testing.T) {
	if s := Seal([]byte("123456789")); string(s) != "\xD8\x44\xF3\xFD123456789" {
		t.Errorf("Seal = %X", s)
	}
	for _, b := range samples() {
		s := Seal(b)
		if want := append(highestFirst(slowSum(b)), b...); !bytes.Equal(s, want) {
			t.Errorf("Seal of %d bytes: %X, not %X", len(b), s, want)
		}
		if o, e := Open(s); e != api.OK || !bytes.Equal(o, b) {
			t.Errorf("Open of %d sealed bytes: %X, error %d", len(b), o, e)
		}
	}
}

// Ty1: fewer than four bytes are no text, even those that begin a sealed one; four are, and their sum is asked.
func TestOpenShort(t *testing.T) {
	for _, b := range [][]byte{nil, {}, {0xFF}, {0xFF, 0xFF}, {0xFF, 0xFF, 0xFF}, {0, 0, 0}, Seal([]byte("abc"))[:3]} {
		if o, e := Open(b); e != api.ErrText || len(o) != 0 {
			t.Errorf("Open(%X) = %X, error %d", b, o, e)
		}
	}
	if o, e := Open([]byte{0xFF, 0xFF, 0xFF, 0xFF}); e != api.OK || len(o) != 0 {
		t.Errorf("the sum of no bytes: %X, error %d", o, e)
	}
}

// Ty1: a sum that is another one; nothing is told beside the error.
func TestOpenOtherSum(t *testing.T) {
	s := Seal([]byte("abc"))
	for _, b := range [][]byte{
		{0, 0, 0, 0}, {0xFF, 0xFF, 0xFF, 0xFE},
		[]byte("123456789"),
		[]byte("\xFD\xF3\x44\xD8123456789"), // the lowest byte first
		[]byte("123456789\xD8\x44\xF3\xFD"), // the sum behind
		s[:6], append(Seal([]byte("abc")), 0), append([]byte{0}, s...), s[1:],
		append(Seal([]byte("abc"))[:4], "abd"...), append(Seal([]byte("abc"))[:4], "bac"...),
	} {
		if o, e := Open(b); e != api.ErrSum || len(o) != 0 {
			t.Errorf("Open(%X) = %X, error %d", b, o, e)
		}
	}
}

// turned is a copy of b with the pattern's bits (the highest first) turned from bit at on.
func turned(b []byte, at int, pattern uint32) []byte {
	c := bytes.Clone(b)
	for i := range 32 {
		if pattern>>(31-i)&1 == 1 {
			c[(at+i)/8] ^= 0x80 >> ((at + i) % 8)
		}
	}
	return c
}

// patterns are of all bits, of one, of two with a gap of any width, of the turner itself, and strewn ones.
func patterns() []uint32 {
	l := []uint32{0xFFFFFFFF, 0x814141AB, 0x02828356, 0x814141AB >> 1, 0x80000001}
	for i := range 32 {
		l = append(l, 1<<i, 1<<i|1<<31, 1<<i|1, 0xFFFFFFFF<<i)
	}
	seed := uint64(7)
	for range 60 {
		seed = seed*0x5851F42D4C957F2D + 0x14057B7EF767814F
		l = append(l, uint32(seed>>32)|1)
	}
	return l
}

// Ty2: bits turned within 32 that follow one another, at each place behind the sum.
func TestTurnedBehindTheSum(t *testing.T) {
	for _, b := range [][]byte{[]byte("abcd"), make([]byte, 9), bytes.Repeat([]byte{0xFF}, 12), strew(3, 40)} {
		s := Seal(b)
		for at := 32; at+32 <= 8*len(s); at++ {
			for _, p := range patterns() {
				c := turned(s, at, p)
				if o, e := Open(c); e != api.ErrSum || len(o) != 0 {
					t.Fatalf("%d bytes, %08X turned from bit %d on: %X, error %d", len(b), p, at, o, e)
				}
			}
		}
	}
}

// Ty2: where there are fewer than 32 bits behind the sum, all that can be turned.
func TestTurnedInFewBytes(t *testing.T) {
	for _, b := range [][]byte{{0}, {0xFF}, {0, 0}, {0xA5, 0x5A}} {
		s := Seal(b)
		for p := 1; p < 1<<(8*len(b)); p++ {
			c := bytes.Clone(s)
			for i := range b {
				c[4+i] ^= byte(p >> (8 * i))
			}
			if _, e := Open(c); e != api.ErrSum {
				t.Fatalf("%X with %X turned: error %d", b, p, e)
			}
		}
	}
}

// Ty2: bits turned in the sum alone, whatever is behind it.
func TestTurnedInTheSum(t *testing.T) {
	for _, b := range samples() {
		s := Seal(b)
		for _, p := range patterns() {
			if p == 0 {
				continue
			}
			if o, e := Open(turned(s, 0, p)); e != api.ErrSum || len(o) != 0 {
				t.Fatalf("%d bytes, %08X turned in the sum: %X, error %d", len(b), p, o, e)
			}
		}
	}
}

// Ty1, with R3: what is handed in is not changed, nor what lies behind its end; answers share nothing with it or with one another.
func TestMemory(t *testing.T) {
	room := append(Seal([]byte("abc")), "behind"...)
	was := bytes.Clone(room)
	for n := range len(room) + 1 {
		given := room[:n]
		Sum(given)
		More(5, given)
		spoil(Seal(given))
		o, _ := Open(given)
		spoil(o)
		if !bytes.Equal(room, was) {
			t.Fatalf("%d bytes were handed in: %X, not %X", n, room, was)
		}
	}
	b := []byte("abc")
	s, other := Seal(b), Seal(b)
	spoil(other)
	spoil(b)
	if o, e := Open(s); e != api.OK || string(o) != "abc" {
		t.Errorf("what was sealed has changed: %X", s)
	}
	o, _ := Open(s)
	spoil(s)
	if string(o) != "abc" {
		t.Errorf("what was opened has changed: %X", o)
	}
}

// spoil turns all bits of a list, and of its spare room.
func spoil(b []byte) {
	b = b[:cap(b)]
	for i := range b {
		b[i] ^= 0xFF
	}
}

// R4: asked twice, the same is told.
func TestTwice(t *testing.T) {
	for _, b := range samples() {
		if Sum(b) != Sum(b) || More(9, b) != More(9, b) || !bytes.Equal(Seal(b), Seal(b)) {
			t.Errorf("%d bytes: two answers", len(b))
		}
	}
}
