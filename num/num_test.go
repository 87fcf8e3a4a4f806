package num

import (
	"math"
	"testing"

	"humus/api"
)

const (
	one     = 0x3FF0000000000000
	nought  = 0x0000000000000000
	noughtS = 0x8000000000000000 // with a sign
	leastP  = 0x0000000000000001 // the least number above 0
	leastN  = 0x8000000000000001
	subP    = 0x000FFFFFFFFFFFFF // the greatest without a leading one
	normP   = 0x0010000000000000
	mostP   = 0x7FEFFFFFFFFFFFFF // the greatest number
	mostN   = 0xFFEFFFFFFFFFFFFF
	infP    = 0x7FF0000000000000
	infN    = 0xFFF0000000000000
	nan     = 0x7FF8000000000001
	minus   = 0x8000000000000000
)

// ladder is keys' bits, rising.
var ladder = []uint64{
	infN, mostN, minus | 0x7FE0000000000000, minus | one + 1, minus | one, minus | normP, minus | subP, leastN,
	nought, leastP, leastP + 1, subP, normP, one - 1, one, one + 1, 0x4000000000000000, 0x7FE0000000000000, mostP, infP, nan,
}

// nans are of all kinds: quiet and signalling, with and without a sign, with least and greatest loads.
var nans = []uint64{
	0x7FF0000000000001, 0x7FF4000000000000, 0x7FF7FFFFFFFFFFFF, 0x7FF8000000000000, nan, 0x7FF8000000000002, 0x7FFFFFFFFFFFFFFF,
	0xFFF0000000000001, 0xFFF4000000000000, 0xFFF7FFFFFFFFFFFF, 0xFFF8000000000000, 0xFFF8000000000001, 0xFFFFFFFFFFFFFFFF,
}

func bits(x float64) uint64 { return math.Float64bits(x) }

func of(b uint64) float64 { return math.Float64frombits(b) }

// isNaN asks the bits, so that the tests do not lean on what they test.
func isNaN(b uint64) bool { return b&^uint64(minus) > infP }

// samples are the ladder, the noughts, all kinds of NaN, and bits strewn over all exponents and signs.
func samples() []uint64 {
	l := append([]uint64{noughtS}, ladder...)
	l = append(l, nans...)
	b := uint64(1)
	for range 3000 {
		b = b*0x5851F42D4C957F2D + 0x14057B7EF767814F
		l = append(l, b, b|infP, b&subP, b&(subP|minus))
	}
	return l
}

func keyBits(b uint64) uint64 {
	switch {
	case isNaN(b):
		return nan
	case b == noughtS:
		return nought
	}
	return b
}

func valueBits(b uint64) uint64 {
	if isNaN(b) {
		return nan
	}
	return b
}

func TestKeyTakesSignAndLoadAway(t *testing.T) { // Nu1
	for _, b := range samples() {
		if got := bits(Key(of(b))); got != keyBits(b) {
			t.Fatalf("Key(%016X) = %016X", b, got)
		}
	}
}

func TestValueKeepsSignOfNought(t *testing.T) { // Nu1
	for _, b := range samples() {
		if got := bits(Value(of(b))); got != valueBits(b) {
			t.Fatalf("Value(%016X) = %016X", b, got)
		}
	}
}

func TestSameIsByBits(t *testing.T) { // Nu1
	l := append([]uint64{noughtS}, ladder...)
	l = append(l, nans...)
	for _, a := range l {
		for _, b := range l {
			if Same(of(a), of(b)) != (a == b) {
				t.Errorf("Same(%016X, %016X) = %v", a, b, a != b)
			}
		}
	}
}

func TestRankOfEdges(t *testing.T) { // Nu1
	for _, c := range []struct{ b, rank uint64 }{
		{infN, 0x000FFFFFFFFFFFFF},
		{mostN, 0x0010000000000000},
		{minus | one, 0x400FFFFFFFFFFFFF},
		{leastN, 0x7FFFFFFFFFFFFFFE},
		{noughtS, 0x8000000000000000},
		{nought, 0x8000000000000000},
		{leastP, 0x8000000000000001},
		{one, 0xBFF0000000000000},
		{mostP, 0xFFEFFFFFFFFFFFFF},
		{infP, 0xFFF0000000000000},
	} {
		if got := Rank(of(c.b)); got != c.rank {
			t.Errorf("Rank(%016X) = %016X, not %016X", c.b, got, c.rank)
		}
	}
	for _, b := range nans {
		if got := Rank(of(b)); got != 0xFFF8000000000001 {
			t.Errorf("Rank(%016X) = %016X", b, got)
		}
	}
}

func TestOfRefusesRanksOfNoKey(t *testing.T) { // Nu1
	for _, rank := range []uint64{
		0, 1, 0x0007FFFFFFFFFFFE, 0x0007FFFFFFFFFFFF, 0x000FFFFFFFFFFFFE, // NaNs with a sign
		0x7FFFFFFFFFFFFFFF,                                         // a nought with a sign
		0xFFF0000000000001, 0xFFF8000000000000, 0xFFF8000000000002, // other NaNs
		0xFFFFFFFFFFFFFFFF,
	} {
		if x, e := Of(rank); e != api.ErrArg || bits(x) != nought {
			t.Errorf("Of(%016X) = %016X, %d", rank, bits(x), e)
		}
	}
}

func TestOfTellsKeysOfRanksAlone(t *testing.T) { // Nu1
	for _, rank := range samples() {
		x, e := Of(rank)
		switch e {
		case api.OK:
			if Rank(x) != rank || !Same(x, Key(x)) {
				t.Fatalf("Of(%016X) = %016X", rank, bits(x))
			}
		case api.ErrArg:
			b := ^rank
			if rank >= minus {
				b = rank - minus
			}
			if keyBits(b) == b || bits(x) != nought {
				t.Fatalf("Of(%016X) = %016X, ErrArg", rank, bits(x))
			}
		default:
			t.Fatalf("Of(%016X): error %d", rank, e)
		}
	}
}

func TestCompareOnTheLadder(t *testing.T) { // Nu1
	for i, a := range ladder {
		for j, b := range ladder {
			want := 0
			if i < j {
				want = -1
			} else if i > j {
				want = 1
			}
			if got := Compare(of(a), of(b)); got != want {
				t.Errorf("Compare(%016X, %016X) = %d", a, b, got)
			}
		}
	}
}

func TestCompareTakesKeys(t *testing.T) { // Nu1
	if Compare(of(noughtS), 0) != 0 || Compare(0, of(noughtS)) != 0 {
		t.Error("noughts are not one key")
	}
	if Compare(of(leastN), of(noughtS)) != -1 || Compare(of(noughtS), of(leastP)) != -1 {
		t.Error("a nought with a sign is not where 0 is")
	}
	for _, a := range nans {
		for _, b := range nans {
			if Compare(of(a), of(b)) != 0 {
				t.Errorf("NaNs %016X and %016X are not one key", a, b)
			}
		}
		for _, b := range ladder[:len(ladder)-1] {
			if Compare(of(a), of(b)) != 1 || Compare(of(b), of(a)) != -1 {
				t.Errorf("NaN %016X is not behind %016X", a, b)
			}
		}
	}
}

func TestNextOfEdges(t *testing.T) { // Nu2
	for _, c := range []struct{ b, next uint64 }{
		{infN, mostN},
		{mostN, mostN - 1},
		{minus | one, 0xBFEFFFFFFFFFFFFF},
		{minus | normP, minus | subP},
		{leastN + 1, leastN},
		{leastN, nought},
		{noughtS, leastP},
		{nought, leastP},
		{leastP, leastP + 1},
		{subP, normP},
		{one, one + 1},
		{mostP - 1, mostP},
		{mostP, infP},
		{infP, nan},
	} {
		if x, ok := Next(of(c.b)); !ok || bits(x) != c.next {
			t.Errorf("Next(%016X) = %016X, %v, not %016X", c.b, bits(x), ok, c.next)
		}
	}
	for _, b := range nans {
		if x, ok := Next(of(b)); ok || bits(x) != nought {
			t.Errorf("Next(%016X) = %016X, %v", b, bits(x), ok)
		}
	}
}

func TestNextLeavesNoKeyOut(t *testing.T) { // Nu2
	for _, b := range samples() {
		if isNaN(b) {
			continue
		}
		x, ok := Next(of(b))
		if !ok || !Same(x, Key(x)) || Compare(of(b), x) != -1 {
			t.Fatalf("Next(%016X) = %016X, %v", b, bits(x), ok)
		}
		for rank := Rank(of(b)) + 1; rank < Rank(x) && rank-Rank(of(b)) < 9; rank++ {
			if y, e := Of(rank); e == api.OK {
				t.Fatalf("Next(%016X) = %016X, but %016X is between", b, bits(x), bits(y))
			}
		}
	}
}

func TestAddIsAValue(t *testing.T) { // Nu2
	for _, c := range []struct{ a, b, sum uint64 }{
		{bits(1.5), bits(2.25), bits(3.75)},
		{bits(0.1), bits(0.2), 0x3FD3333333333334},
		{one, minus | one, nought},
		{nought, nought, nought},
		{noughtS, nought, nought},
		{nought, noughtS, nought},
		{noughtS, noughtS, noughtS},
		{noughtS, one, one},
		{leastP, leastP, leastP + 1},
		{leastP, leastN, nought},
		{subP, leastP, normP},
		{mostP, leastP, mostP},
		{mostP, mostP, infP},
		{mostN, mostN, infN},
		{mostP, mostN, nought},
		{infP, one, infP},
		{infN, mostP, infN},
		{infP, infP, infP},
		{infP, infN, nan},
		{infN, infP, nan},
	} {
		if got := bits(Add(of(c.a), of(c.b))); got != c.sum {
			t.Errorf("Add(%016X, %016X) = %016X, not %016X", c.a, c.b, got, c.sum)
		}
	}
	for _, a := range nans {
		for _, b := range append([]uint64{noughtS, infP, infN, one}, nans...) {
			if bits(Add(of(a), of(b))) != nan || bits(Add(of(b), of(a))) != nan {
				t.Errorf("Add of %016X and %016X is not the one NaN", a, b)
			}
		}
	}
}

func TestBetweenOnTheLadder(t *testing.T) { // Nu2
	for i, x := range ladder {
		for j, lo := range ladder {
			for k, hi := range ladder {
				if got := Between(of(x), of(lo), of(hi)); got != (j <= i && i < k) {
					t.Errorf("Between(%016X, %016X, %016X) = %v", x, lo, hi, got)
				}
			}
		}
	}
}

func TestBetweenTakesKeys(t *testing.T) { // Nu2
	s := of(noughtS)
	if !Between(s, 0, 1) || !Between(0, s, 1) || !Between(s, s, 1) || Between(0, -1, s) || Between(s, -1, 0) || Between(0, s, 0) {
		t.Error("a nought with a sign is not where 0 is")
	}
	for _, a := range nans {
		if !Between(1, 1, of(a)) || !Between(of(infP), 1, of(a)) || Between(1, of(a), of(a)) || Between(1, of(a), 2) {
			t.Errorf("NaN %016X as an end", a)
		}
		for _, b := range nans {
			if Between(of(a), 0, of(b)) || Between(of(a), of(b), of(b)) {
				t.Errorf("NaN %016X is ahead of %016X", a, b)
			}
		}
		if Between(of(a), of(infN), of(infP)) {
			t.Errorf("NaN %016X is ahead of the infinite one", a)
		}
	}
}

func TestRanksAreOrderedAsKeys(t *testing.T) { // Nu3
	for i := 1; i < len(ladder); i++ {
		if Rank(of(ladder[i-1])) >= Rank(of(ladder[i])) {
			t.Errorf("the ranks of %016X and %016X", ladder[i-1], ladder[i])
		}
	}
	l := samples()
	for i, b := range l {
		x, y := of(b), of(l[(i*7+1)%len(l)])
		rx, ry := Rank(x), Rank(y)
		if (Compare(x, y) == -1) != (rx < ry) || (Compare(x, y) == 0) != (rx == ry) || (Compare(x, y) == 1) != (rx > ry) {
			t.Fatalf("%016X and %016X: Compare %d, ranks %016X and %016X", bits(x), bits(y), Compare(x, y), rx, ry)
		}
		if !isNaN(bits(x)) && !isNaN(bits(y)) && (x < y) != (rx < ry) {
			t.Fatalf("the ranks of %016X and %016X are not ordered as numbers are", bits(x), bits(y))
		}
	}
}

func TestOfOfRankIsTheKey(t *testing.T) { // Nu3
	for _, b := range samples() {
		if x, e := Of(Rank(of(b))); e != api.OK || bits(x) != keyBits(b) {
			t.Fatalf("Of(Rank(%016X)) = %016X, %d", b, bits(x), e)
		}
	}
}
