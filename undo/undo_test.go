package undo

import (
	"fmt"
	"math"
	"math/rand/v2"
	"slices"
	"testing"

	"humus/api"
)

const (
	most    = 1<<31 - 1
	theNaN  = 0x7FF8000000000001
	minusNo = 1 << 63 // the bits of the 0 with a sign
)

func ofBits(b uint64) float64 { return math.Float64frombits(b) }

func bitsOf(l []float64) []uint64 {
	b := []uint64{}
	for _, x := range l {
		b = append(b, math.Float64bits(x))
	}
	return b
}

func insert(tx, no, prev int) api.Undo {
	return api.Undo{Kind: 1, Tx: tx, No: no, Prev: prev}
}

func update(tx, no, prev int, cols ...float64) api.Undo {
	return api.Undo{Kind: 2, Tx: tx, No: no, Prev: prev, Page: 3, Slot: 4, Row: api.Row{Key: float64(no), Cols: cols, Writer: tx, Roll: api.Roll{Cell: 1, No: 1}}}
}

// of is so many cells, with these first, and empty ones behind them.
func of(n int, l ...api.Undo) []api.Undo {
	cells := make([]api.Undo, n)
	copy(cells, l)
	return cells
}

// full is so many cells, all used, each of its own number, the last written first.
func full(n int) []api.Undo {
	cells := make([]api.Undo, n)
	for i := range cells {
		cells[i] = insert(1+i%5, 1000-i, 0)
		if i%3 == 1 {
			cells[i] = update(1+i%5, 1000-i, 0, float64(i), -1)
		}
	}
	return cells
}

// holed is full cells of which these are empty.
func holed(n int, empty ...int) []api.Undo {
	cells := full(n)
	for _, cell := range empty {
		cells[cell-1] = api.Undo{}
	}
	return cells
}

// clone is cells with nothing in common, their rows' columns too.
func clone(l []api.Undo) []api.Undo {
	c := []api.Undo{}
	for _, u := range l {
		u.Row.Cols = slices.Clone(u.Row.Cols)
		c = append(c, u)
	}
	return c
}

func with(l []api.Undo, cell int, u api.Undo) []api.Undo {
	l = clone(l)
	l[cell-1] = u
	return l
}

// alike goes part by part, numbers by their bits: what is told must not hang on layer 9.
func alike(a, b api.Undo) bool {
	if a.Tx != b.Tx || a.No != b.No || a.Prev != b.Prev || a.Kind != b.Kind || a.Page != b.Page || a.Slot != b.Slot {
		return false
	}
	if math.Float64bits(a.Row.Key) != math.Float64bits(b.Row.Key) || !slices.Equal(bitsOf(a.Row.Cols), bitsOf(b.Row.Cols)) {
		return false
	}
	return a.Row.Dead == b.Row.Dead && a.Row.Writer == b.Row.Writer && a.Row.Roll == b.Row.Roll
}

func allAlike(a, b []api.Undo) bool { return slices.EqualFunc(a, b, alike) }

// The calls by the words of the chapter, and of the layers 4 and 9, as plainly as can be.

func slowRow(r api.Row) bool {
	number := func(x float64) bool { return x == x || math.Float64bits(x) == theNaN }
	good := number(r.Key) && math.Float64bits(r.Key) != minusNo && len(r.Cols) <= 4 && (!r.Dead || len(r.Cols) == 0)
	for _, x := range r.Cols {
		good = good && number(x)
	}
	good = good && r.Writer >= 0 && r.Writer <= most && r.Roll.Cell >= 0 && r.Roll.Cell <= 65535
	return good && r.Roll.No >= 0 && r.Roll.No <= most && (r.Roll.Cell > 0 || r.Roll.No == 0)
}

func slowUndo(u api.Undo) bool {
	good := u.Tx >= 1 && u.Tx <= most && u.No >= 1 && u.No <= most && u.Prev >= 0 && u.Prev <= 65535
	good = good && u.Page >= 0 && u.Page <= 255 && u.Slot >= 0 && u.Slot <= 255
	zero := alike(api.Undo{Row: u.Row}, api.Undo{})
	return good && (u.Kind == 1 && zero || u.Kind == 2 && slowRow(u.Row))
}

func slowEmpty(u api.Undo) bool { return alike(u, api.Undo{}) }

func slowCheck(l []api.Undo) bool {
	good := len(l) >= 6 && len(l) <= 378 && len(l)/6*6 == len(l)
	times := map[int]int{}
	for _, u := range l {
		if !slowEmpty(u) {
			times[u.No]++
			good = good && slowUndo(u) && times[u.No] == 1
		}
	}
	return good
}

// slowFrees are all cells that are empty.
func slowFrees(l []api.Undo) []int {
	frees := []int{}
	for i, u := range l {
		if slowEmpty(u) {
			frees = append(frees, i+1)
		}
	}
	return frees
}

func slowFree(l []api.Undo) int {
	if !slowCheck(l) || len(slowFrees(l)) == 0 {
		return 0
	}
	return slowFrees(l)[0]
}

func slowUsed(l []api.Undo) int {
	if !slowCheck(l) {
		return 0
	}
	return len(l) - len(slowFrees(l))
}

// told is what Put and Drop tell: cells, which one, and an error.
type told struct {
	l []api.Undo
	n int
	e api.Errno
}

func slowPut(l []api.Undo, u api.Undo) told {
	if !slowCheck(l) {
		return told{e: api.ErrArg}
	}
	if !slowUndo(u) {
		return told{clone(l), 0, api.ErrArg}
	}
	for _, other := range l {
		if !slowEmpty(other) && other.No == u.No {
			return told{clone(l), 0, api.ErrArg}
		}
	}
	for i := range l {
		if slowEmpty(l[i]) {
			return told{with(l, i+1, clone([]api.Undo{u})[0]), i + 1, api.OK}
		}
	}
	return told{clone(l), 0, api.ErrUndo}
}

// slowAt is the undoing of a cell, as a list of one; of a cell that is empty, or that there is not, none.
func slowAt(l []api.Undo, cell int) []api.Undo {
	for i, u := range l {
		if i+1 == cell && !slowEmpty(u) {
			return clone([]api.Undo{u})
		}
	}
	return nil
}

func slowDrop(l []api.Undo, cell int) told {
	if !slowCheck(l) {
		return told{e: api.ErrArg}
	}
	if slowAt(l, cell) == nil {
		return told{clone(l), 0, api.ErrNone}
	}
	return told{with(l, cell, api.Undo{}), 0, api.OK}
}

func slowGet(l []api.Undo, at api.Roll) (api.Undo, bool) {
	if there := slowAt(l, at.Cell); slowCheck(l) && there != nil && there[0].No == at.No {
		return there[0], true
	}
	return api.Undo{}, false
}

func slowChain(l []api.Undo, cell int) []api.Undo {
	if !slowCheck(l) || slowAt(l, cell) == nil {
		return nil
	}
	chain := slowAt(l, cell)
	for {
		ahead := chain[len(chain)-1]
		there := slowAt(l, ahead.Prev)
		if ahead.Prev == 0 || there == nil || there[0].Tx != ahead.Tx || there[0].No >= ahead.No {
			return chain
		}
		chain = append(chain, there...)
	}
}

func put(l []api.Undo, u api.Undo) told { x, n, e := Put(l, u); return told{x, n, e} }
func drop(l []api.Undo, cell int) told  { x, e := Drop(l, cell); return told{x, 0, e} }

// brief is cells in a few words: there may be very many.
func brief(l []api.Undo) string { return fmt.Sprintf("%d cells %.300s", len(l), fmt.Sprint(l)) }

func numbersOf(l []api.Undo) []int {
	n := []int{}
	for _, u := range l {
		n = append(n, u.No)
	}
	return n
}

// want holds what Put or Drop tells against what it must.
func want(t *testing.T, name string, l []api.Undo, got, must told) {
	t.Helper()
	if !allAlike(got.l, must.l) || got.n != must.n || got.e != must.e {
		t.Fatalf("%s of %s = %s, %d, error %d, not %s, %d, %d", name, brief(l), brief(got.l), got.n, got.e, brief(must.l), must.n, must.e)
	}
}

func wantPut(t *testing.T, l []api.Undo, u api.Undo, next []api.Undo, cell int, why api.Errno) {
	t.Helper()
	want(t, fmt.Sprintf("Put %v", u), l, put(l, u), told{next, cell, why})
	want(t, fmt.Sprintf("Put %v by the words", u), l, slowPut(l, u), told{next, cell, why})
}

func wantDrop(t *testing.T, l []api.Undo, cell int, next []api.Undo, why api.Errno) {
	t.Helper()
	want(t, fmt.Sprintf("Drop %d", cell), l, drop(l, cell), told{next, 0, why})
	want(t, fmt.Sprintf("Drop %d by the words", cell), l, slowDrop(l, cell), told{next, 0, why})
}

func wantGet(t *testing.T, l []api.Undo, cell, no int, must api.Undo, is bool) {
	t.Helper()
	at := api.Roll{Cell: cell, No: no}
	if u, ok := Get(l, at); !alike(u, must) || ok != is {
		t.Fatalf("Get %v of %s = %v, %v, not %v, %v", at, brief(l), u, ok, must, is)
	}
	if u, ok := slowGet(l, at); !alike(u, must) || ok != is {
		t.Fatalf("Get %v of %s is by the words %v, %v, not %v, %v", at, brief(l), u, ok, must, is)
	}
}

// wantChain holds that the chain from a cell has these cells, in this order.
func wantChain(t *testing.T, l []api.Undo, cell int, cells ...int) {
	t.Helper()
	must := []api.Undo{}
	for _, c := range cells {
		must = append(must, l[c-1])
	}
	if c := Chain(l, cell); !allAlike(c, must) {
		t.Fatalf("Chain from %d of %s = %s, not %s", cell, brief(l), brief(c), brief(must))
	}
	if c := slowChain(l, cell); !allAlike(c, must) {
		t.Fatalf("Chain from %d of %s is by the words %s, not %s", cell, brief(l), brief(c), brief(must))
	}
}

// wantAsked holds what only asks cells against the chapter's words: all cells that there are, and some more, each with its number and with others.
func wantAsked(t *testing.T, l []api.Undo) {
	t.Helper()
	if e := Check(l); e != api.OK && e != api.ErrArg || (e == api.OK) != slowCheck(l) {
		t.Fatalf("Check of %s = %d", brief(l), e)
	}
	if f, u := Free(l), Used(l); f != slowFree(l) || u != slowUsed(l) {
		t.Fatalf("Free of %s = %d, Used = %d, not %d, %d", brief(l), f, u, slowFree(l), slowUsed(l))
	}
	for cell := -1; cell <= len(l)+1; cell++ {
		if len(l) > 20 && cell > 8 && cell < len(l)-8 {
			continue
		}
		numbers := []int{0, 1}
		for _, u := range slowAt(l, cell) {
			numbers = append(numbers, u.No, u.No-1, u.No+1, -u.No)
		}
		for _, no := range numbers {
			at := api.Roll{Cell: cell, No: no}
			must, is := slowGet(l, at)
			if u, ok := Get(l, at); ok != is || !alike(u, must) {
				t.Fatalf("Get %v of %s = %v, %v, not %v, %v", at, brief(l), u, ok, must, is)
			}
		}
		if c := Chain(l, cell); !allAlike(c, slowChain(l, cell)) {
			t.Fatalf("Chain from %d of %s = %s, not %s", cell, brief(l), brief(c), brief(slowChain(l, cell)))
		}
	}
}

// far are numbers that are far from all that may be, some of which would be near if bits fell off.
func far() []int {
	return []int{math.MaxInt, math.MinInt, math.MinInt + 1, 1 << 32, 1<<32 + 1, 1<<32 + 5, -1 << 32, 1<<40 + 2, -most, 65536 + 1}
}

// badUndos are undoings that may not be, each in one part, and are not the zero one either.
func badUndos() []api.Undo {
	var l []api.Undo
	for _, u := range []api.Undo{insert(7, 9000, 2), update(7, 9000, 2, 1, 2)} {
		change := func(part func(u *api.Undo)) {
			c := u
			part(&c)
			l = append(l, c)
		}
		for _, n := range []int{0, -1, most + 1, math.MaxInt, math.MinInt, 1<<32 + 7} {
			change(func(u *api.Undo) { u.Tx = n })
			change(func(u *api.Undo) { u.No = n })
		}
		for _, n := range []int{-1, 65536, math.MaxInt, math.MinInt} {
			change(func(u *api.Undo) { u.Prev = n })
		}
		for _, n := range []int{-1, 256, math.MaxInt, math.MinInt} {
			change(func(u *api.Undo) { u.Page = n })
			change(func(u *api.Undo) { u.Slot = n })
		}
		for _, n := range []int{-1, 0, 3, 257, 258} {
			change(func(u *api.Undo) { u.Kind = n })
		}
	}
	for _, r := range []api.Row{
		{Key: 1}, {Key: ofBits(minusNo)}, {Dead: true}, {Cols: []float64{0}}, {Writer: 1}, {Roll: api.Roll{Cell: 1}},
	} {
		u := insert(7, 9000, 2)
		u.Row = r
		l = append(l, u, api.Undo{Row: r}) // no empty cell either
	}
	for _, r := range []api.Row{
		{Key: ofBits(minusNo)}, {Key: ofBits(theNaN + 1)}, {Dead: true, Cols: []float64{0}}, {Cols: make([]float64, 5)},
		{Cols: []float64{ofBits(theNaN - 1)}}, {Writer: -1}, {Writer: most + 1}, {Roll: api.Roll{Cell: -1}}, {Roll: api.Roll{Cell: 65536}}, {Roll: api.Roll{No: 1}},
	} {
		u := update(7, 9000, 2)
		u.Row = r
		l = append(l, u)
	}
	for _, n := range []int{-1, 1, most} {
		l = append(l, api.Undo{Tx: n}, api.Undo{No: n}, api.Undo{Prev: n}, api.Undo{Kind: n}, api.Undo{Page: n}, api.Undo{Slot: n})
	}
	return l
}

// goodUndos are undoings that may be, at the edges of their parts; their numbers are in no cells of full.
func goodUndos() []api.Undo {
	return []api.Undo{
		insert(1, 1, 0), insert(most, most, 65535), insert(3, 2000, 7), update(1, 1, 0), update(9, 3000, 378, 1, 2, 3, 4),
		{Kind: 1, Tx: 1, No: 1, Page: 255, Slot: 255, Row: api.Row{Cols: []float64{}}},
		{Kind: 2, Tx: 5, No: 4000},
		{Kind: 2, Tx: 5, No: 4001, Prev: 65535, Row: api.Row{Dead: true}},
		{Kind: 2, Tx: most, No: most, Prev: 65535, Page: 255, Slot: 255, Row: api.Row{Key: ofBits(theNaN), Cols: []float64{ofBits(minusNo), ofBits(theNaN), math.Inf(1), -1}, Writer: most, Roll: api.Roll{Cell: 65535, No: most}}},
	}
}

// lowAlike are undoings whose numbers would be one, if bits fell off.
func lowAlike() []api.Undo {
	return []api.Undo{insert(1, 5, 2), insert(1, 5+1<<8, 1), insert(1, 5+1<<16, 2), insert(1, 5+1<<24, 3), insert(1, 5+1<<30, 4)}
}

// sample is cells with a name.
type sample struct {
	name string
	l    []api.Undo
}

// goodCells are cells that may be: of each edge of how many there are, empty, used, and used here and there.
func goodCells() []sample {
	zeros := of(6)
	for i := range zeros {
		zeros[i].Row.Cols = []float64{} // an empty list is none
	}
	l := []sample{
		{"six, with empty lists", zeros},
		{"the greatest number", of(6, insert(most, most, 65535))},
		{"the least number", of(6, insert(1, 1, 0))},
		{"the same but for No", of(6, insert(1, 1, 1), insert(1, 2, 1), insert(1, 3, 1))},
		{"some, of all sorts", of(12, goodUndos()[1:5]...)},
		{"a Tx as another's No", of(6, insert(5, 7, 0), insert(7, 5, 0))},
		{"numbers that are alike but for high bits", of(6, lowAlike()...)},
	}
	for _, n := range []int{6, 12, 18, 372, 378} {
		l = append(l,
			sample{fmt.Sprintf("%d empty ones", n), of(n)},
			sample{fmt.Sprintf("%d used ones", n), full(n)},
			sample{fmt.Sprintf("%d, the first one empty", n), holed(n, 1)},
			sample{fmt.Sprintf("%d, the last one empty", n), holed(n, n)},
			sample{fmt.Sprintf("%d, some empty", n), holed(n, 2, 3, 5, n-1)},
			sample{fmt.Sprintf("%d, one used in the middle", n), with(of(n), n/2, update(4, 5, 6, 7))},
			sample{fmt.Sprintf("%d, the last one used", n), with(of(n), n, insert(4, 5, 0))})
	}
	return l
}

// badCells are cells that may not be, each for one reason.
func badCells() []sample {
	l := []sample{{"nil", nil}, {"none", []api.Undo{}}}
	for _, n := range []int{1, 2, 3, 4, 5, 7, 8, 11, 13, 371, 373, 377, 379, 383, 384, 390, 600, 6000, 65535, 65538} {
		l = append(l,
			sample{fmt.Sprintf("%d empty ones", n), of(n)},
			sample{fmt.Sprintf("%d, one used", n), of(n, insert(1, 5, 0))})
		if n < 1000 {
			l = append(l, sample{fmt.Sprintf("%d used ones", n), full(n)})
		}
	}
	for _, u := range badUndos() {
		for _, cell := range []int{1, 3, 6} {
			l = append(l,
				sample{fmt.Sprintf("%v alone in %d", u, cell), with(of(6), cell, u)},
				sample{fmt.Sprintf("%v in %d", u, cell), with(full(6), cell, u)})
		}
		l = append(l, sample{fmt.Sprintf("%v, the last of many", u), with(holed(378, 5), 378, u)})
	}
	for _, n := range []int{6, 12, 378} {
		for _, pair := range [][2]int{{1, 2}, {2, 3}, {n - 1, n}, {1, n}, {2, n - 1}, {n, 1}, {3, 6}} {
			for _, cells := range [][]api.Undo{of(n), full(n), holed(n, 4)} {
				for _, u := range []api.Undo{insert(3, 5000, 0), update(4, 5000, 1, 2), insert(3, most, 0)} {
					x := with(with(cells, pair[0], insert(3, u.No, 0)), pair[1], u)
					l = append(l, sample{fmt.Sprintf("%d cells, No %d in %v", n, u.No, pair), x})
				}
			}
		}
	}
	return append(l, sample{"a No three times", of(6, insert(1, 5, 0), insert(2, 5, 0), insert(3, 5, 0))})
}

// The chapter's example: Put, Drop, Put of another No: the same cell; Get of the first one: false.
func TestExample(t *testing.T) {
	l, first, e := Put(make([]api.Undo, api.Cells), insert(1, 5, 0))
	if e != api.OK || first != 1 {
		t.Fatalf("Put: cell %d, error %d", first, e)
	}
	wantGet(t, l, first, 5, insert(1, 5, 0), true)
	l, e = Drop(l, first)
	if e != api.OK {
		t.Fatalf("Drop: error %d", e)
	}
	l, second, e := Put(l, insert(1, 6, 0))
	if e != api.OK || second != first {
		t.Fatalf("Put: cell %d, error %d", second, e)
	}
	wantGet(t, l, first, 5, api.Undo{}, false)
	wantGet(t, l, first, 6, insert(1, 6, 0), true)
}

// Ud1: cells that may be; Free, Used, Get and Chain of them by the chapter's words.
func TestGoodCells(t *testing.T) {
	for _, s := range goodCells() {
		if e := Check(s.l); e != api.OK || !slowCheck(s.l) {
			t.Errorf("%s: error %d", s.name, e)
		}
		wantAsked(t, s.l)
	}
}

// Ud1, Ud2, Ud3: of cells that may not be: ErrArg, with zeros; that comes ahead of all else that is wrong. None is free or used, none is got, and no chain is there.
func TestBadCells(t *testing.T) {
	for _, s := range badCells() {
		if e := Check(s.l); e != api.ErrArg || slowCheck(s.l) {
			t.Fatalf("%s: Check: error %d", s.name, e)
		}
		if f, u := Free(s.l), Used(s.l); f != 0 || u != 0 {
			t.Fatalf("%s: Free %d, Used %d", s.name, f, u)
		}
		for _, u := range []api.Undo{{}, insert(1, 1, 0), insert(3, 5000, 0), update(2, 5, 0, 6), insert(0, 0, 0)} {
			wantPut(t, s.l, u, nil, 0, api.ErrArg)
		}
		for _, cell := range []int{-1, 0, 1, 2, 3, 5, 6, 7, len(s.l), len(s.l) + 1} {
			wantDrop(t, s.l, cell, nil, api.ErrArg)
			wantGet(t, s.l, cell, 0, api.Undo{}, false)
			for _, u := range slowAt(s.l, cell) {
				wantGet(t, s.l, cell, u.No, api.Undo{}, false)
			}
			wantChain(t, s.l, cell)
		}
	}
}

// Ud1: how many there are: 6 at least, 378 at most, a multiple of 6.
func TestCheckOfLengths(t *testing.T) {
	for n := range 800 {
		is := n == 6 || n == 12 || n > 12 && n <= 378 && n%6 == 0
		for _, l := range [][]api.Undo{of(n), full(n)} {
			if e := Check(l); (e == api.OK) != is || e != api.OK && e != api.ErrArg {
				t.Errorf("%d cells: error %d", n, e)
			}
		}
	}
}

// Ud1: a No that is there twice, in each two cells of twelve and of six, used or empty around them.
func TestCheckOfSameNo(t *testing.T) {
	for _, n := range []int{6, 12} {
		for a := 1; a <= n; a++ {
			for b := 1; b <= n; b++ {
				for _, cells := range [][]api.Undo{of(n), full(n)} {
					is := Check(with(with(cells, a, insert(1, 5, 0)), b, update(2, 5, 0))) == api.OK
					if is != (a == b) {
						t.Errorf("No 5 in %d and %d of %d: %v", a, b, n, is)
					}
					if e := Check(with(with(cells, a, insert(1, 5, 0)), b, update(1, 6, 0))); e != api.OK {
						t.Errorf("No 5 in %d and No 6 in %d of %d: error %d", a, b, n, e)
					}
				}
			}
		}
	}
}

// Ud1: Free and Used of cells that are all empty, all used, and used here and there.
func TestFreeAndUsed(t *testing.T) {
	for _, c := range []struct {
		l          []api.Undo
		free, used int
	}{
		{of(6), 1, 0}, {of(378), 1, 0}, {full(6), 0, 6}, {full(12), 0, 12}, {full(378), 0, 378},
		{of(6, insert(1, 1, 0)), 2, 1}, {holed(6, 6), 6, 5}, {holed(6, 1), 1, 5}, {holed(12, 3, 4, 11), 3, 9},
		{with(of(6), 6, insert(1, 1, 0)), 1, 1}, {holed(378, 378), 378, 377}, {holed(378, 200, 300), 200, 376},
		{of(5), 0, 0}, {of(7, insert(1, 1, 0)), 0, 0}, {full(384), 0, 0}, {of(384), 0, 0}, {nil, 0, 0},
		{of(6, insert(1, 1, 0), insert(1, 1, 0)), 0, 0}, {of(6, insert(0, 1, 0)), 0, 0},
	} {
		if f, u := Free(c.l), Used(c.l); f != c.free || u != c.used {
			t.Errorf("%s: Free %d, Used %d, not %d, %d", brief(c.l), f, u, c.free, c.used)
		}
	}
	for n := 6; n <= 378; n += 6 {
		for _, cell := range []int{1, 2, n / 2, n - 1, n} {
			if f, u := Free(holed(n, cell)), Used(holed(n, cell)); f != cell || u != n-1 {
				t.Errorf("%d cells, %d empty: Free %d, Used %d", n, cell, f, u)
			}
		}
	}
}

// Ud2: Put into cells that have one empty one, wherever, and many: u is in the first one; told which.
func TestPut(t *testing.T) {
	for _, u := range goodUndos() {
		for _, n := range []int{6, 12, 378} {
			wantPut(t, of(n), u, of(n, u), 1, api.OK)
			for _, cell := range []int{1, 2, 5, 6, n - 1, n} {
				wantPut(t, holed(n, cell), u, with(full(n), cell, u), cell, api.OK)
			}
			wantPut(t, holed(n, 3, 4, n), u, with(holed(n, 4, n), 3, u), 3, api.OK)
			wantPut(t, holed(n, 2, n-1, n), u, with(holed(n, n-1, n), 2, u), 2, api.OK)
		}
	}
	wantPut(t, of(6, insert(1, 5, 0)), insert(1, 4, 0), of(6, insert(1, 5, 0), insert(1, 4, 0)), 2, api.OK) // numbers need not rise
	low := lowAlike()
	for i := range low {
		wantPut(t, of(6, low[:i]...), low[i], of(6, low[:i+1]...), i+1, api.OK)
	}
	wantPut(t, of(6, insert(1, 5, 0)), insert(5, 1, 9), of(6, insert(1, 5, 0), insert(5, 1, 9)), 2, api.OK)
}

// Ud2: Put of an undoing that may not be, of one whose No is there, and into full cells; the cells are told as they were handed in, and which error is told where two could be.
func TestPutRefuses(t *testing.T) {
	for _, s := range goodCells() {
		for _, u := range append(badUndos(), api.Undo{}, api.Undo{Row: api.Row{Cols: []float64{}}}) {
			wantPut(t, s.l, u, s.l, 0, api.ErrArg) // full cells among them
		}
		for _, i := range []int{0, 1, 2, 5, len(s.l) - 1} {
			there := s.l[i]
			if slowEmpty(there) {
				continue
			}
			wantPut(t, s.l, there, s.l, 0, api.ErrArg)
			wantPut(t, s.l, insert(1, there.No, 0), s.l, 0, api.ErrArg)
			wantPut(t, s.l, update(most, there.No, 3, 1), s.l, 0, api.ErrArg)
			wantPut(t, s.l, insert(0, there.No, 0), s.l, 0, api.ErrArg)
		}
	}
	for _, n := range []int{6, 12, 378} {
		for _, u := range goodUndos() {
			wantPut(t, full(n), u, full(n), 0, api.ErrUndo)
		}
	}
}

// Ud2: Drop of each cell that is used: it is empty, and all others stay.
func TestDrop(t *testing.T) {
	for _, n := range []int{6, 12, 378} {
		for cell := 1; cell <= n; cell++ {
			if n > 12 && cell > 4 && cell < n-3 && cell%50 > 0 {
				continue
			}
			wantDrop(t, full(n), cell, holed(n, cell), api.OK)
			wantDrop(t, holed(n, cell), cell, holed(n, cell), api.ErrNone) // dropped ahead
			wantDrop(t, with(of(n), cell, update(1, 5, 0, 6, 7)), cell, of(n), api.OK)
		}
	}
	wantDrop(t, holed(12, 3, 4), 5, holed(12, 3, 4, 5), api.OK)
}

// Ud2: Drop of cells that there are not, and of empty ones; the cells are told as they were handed in.
func TestDropRefuses(t *testing.T) {
	for _, s := range goodCells() {
		n := len(s.l)
		for _, cell := range append(far(), 0, -1, -2, -n, n+1, n+2, 2*n, 379, 65535, 65536) {
			wantDrop(t, s.l, cell, s.l, api.ErrNone)
		}
		for _, cell := range slowFrees(s.l) {
			if cell < 9 || cell > n-9 {
				wantDrop(t, s.l, cell, s.l, api.ErrNone)
			}
		}
	}
}

// Ud2: what Drop leaves is the zero one, in all of its parts.
func TestDropLeavesZero(t *testing.T) {
	for _, u := range goodUndos() {
		l, e := Drop(of(6, u), 1)
		if e != api.OK || !slowEmpty(l[0]) || len(l) != 6 {
			t.Errorf("Drop of %v leaves %v, error %d", u, l, e)
		}
	}
}

// Ud3: Get of a cell with its No and with others, of an empty one with No 0 and with others, and of cells that there are not.
func TestGet(t *testing.T) {
	none := api.Undo{}
	for _, u := range goodUndos() {
		for _, n := range []int{6, 378} {
			for _, cell := range []int{1, 4, n} {
				l := with(holed(n, 2, 3), cell, u)
				wantGet(t, l, cell, u.No, u, true)
				for _, no := range append(far(), 0, -1, u.No-1, u.No+1, -u.No, u.No+1<<31, u.No+1<<32, u.Tx+5000) {
					wantGet(t, l, cell, no, none, false)
				}
				for _, other := range append(far(), 0, -1, -cell, 2, 3, 5, n-1, n+1, n+cell, cell+65536) {
					wantGet(t, l, other, u.No, none, false)
					wantGet(t, l, other, 0, none, false)
				}
			}
		}
	}
	for _, l := range [][]api.Undo{of(6), of(378), holed(12, 1, 6, 12)} {
		for _, cell := range slowFrees(l) {
			for _, no := range append(far(), 0, 1, 5, 1000, -1, most) {
				wantGet(t, l, cell, no, none, false)
			}
		}
	}
}

// Ud3: chains from an empty cell, from one that there is not, from one with Prev 0, over two cells and over all of them.
func TestChain(t *testing.T) {
	for _, s := range goodCells() {
		for _, cell := range append(far(), 0, -1, len(s.l)+1, 379, 65535, 65536) {
			wantChain(t, s.l, cell)
		}
		for _, cell := range slowFrees(s.l) {
			wantChain(t, s.l, cell)
		}
	}
	for _, cell := range []int{1, 4, 6} {
		wantChain(t, with(of(6), cell, insert(1, 5, 0)), cell, cell)
		wantChain(t, with(full(6), cell, update(1, 5, 0, 3)), cell, cell)
	}
	wantChain(t, of(6, insert(1, 5, 0), update(1, 7, 1, 8)), 2, 2, 1)
	wantChain(t, of(6, insert(1, 7, 2), update(1, 5, 0, 8)), 1, 1, 2)
	wantChain(t, with(of(12, insert(1, 7, 12)), 12, insert(1, 6, 0)), 1, 1, 12)
	wantChain(t, with(of(378, insert(most, most, 378)), 378, insert(most, 1, 0)), 1, 1, 378)
	wantChain(t, of(6, insert(1, 9, 0), insert(1, 5, 0), insert(2, 8, 2), insert(1, 7, 2)), 4, 4, 2)
}

// inRow is cells that are one chain, in this order of cells.
func inRow(n int, order []int) []api.Undo {
	l := of(n)
	for i, cell := range order {
		l[cell-1] = insert(3, 2000-2*i, 0)
		if i+1 < len(order) {
			l[cell-1].Prev = order[i+1]
		}
	}
	return l
}

// Ud3, Ud4: chains over all cells, up, down and strewn, from each of them.
func TestChainOverAll(t *testing.T) {
	r := rand.New(rand.NewPCG(14, 1))
	for _, n := range []int{6, 12, 378} {
		up := []int{}
		for cell := 1; cell <= n; cell++ {
			up = append(up, cell)
		}
		down := slices.Clone(up)
		slices.Reverse(down)
		strewn := slices.Clone(up)
		r.Shuffle(n, func(i, j int) { strewn[i], strewn[j] = strewn[j], strewn[i] })
		for _, order := range [][]int{up, down, strewn} {
			l := inRow(n, order)
			for i, cell := range order {
				if i%10 == 0 || n < 20 {
					wantChain(t, l, cell, order[i:]...)
				}
			}
		}
	}
}

// Ud3: a chain ends at a cell that is empty, that there is not, that is of another Tx, and whose No is not below the one ahead of it.
func TestChainEnds(t *testing.T) {
	for _, prev := range []int{0, 3, 7, 8, 12, 379, 65535} { // cell 3 is empty
		wantChain(t, of(6, insert(1, 5, 0), insert(1, 7, prev)), 2, 2)
		wantChain(t, of(6, insert(1, 5, prev), insert(1, 7, 1)), 2, 2, 1)
	}
	wantChain(t, of(6, insert(2, 5, 0), insert(1, 7, 1)), 2, 2)
	wantChain(t, of(6, insert(1, 5, 0), insert(2, 7, 1)), 2, 2)
	wantChain(t, of(6, insert(1, 5, 0), insert(2, 7, 1), insert(1, 9, 2)), 3, 3) // it does not go on behind another's
	wantChain(t, of(6, insert(2, 5, 0), insert(1, 7, 1), insert(1, 9, 2)), 3, 3, 2)
	wantChain(t, of(6, insert(1, 8, 0), insert(1, 7, 1)), 2, 2)
	wantChain(t, of(6, insert(1, 6, 0), insert(1, 7, 1)), 2, 2, 1)
	wantChain(t, of(6, insert(1, 8, 0), insert(1, 7, 1), insert(1, 9, 2)), 3, 3, 2) // 8 is below 9, but not below 7
	wantChain(t, of(6, insert(1, most, 0), insert(1, 1, 1)), 2, 2)
	wantChain(t, of(6, lowAlike()...), 5, 5, 4, 3, 2, 1)
	wantChain(t, of(6, lowAlike()...), 1, 1)
	for _, bit := range []int{8, 16, 24, 30} {
		wantChain(t, of(6, insert(5, 5, 0), insert(5+1<<bit, 7, 1)), 2, 2)
	}
	wantChain(t, of(6, insert(2, 1, 0), insert(2, 9, 4), insert(2, 5, 1), insert(2, 7, 3)), 2, 2, 4, 3, 1)
}

// Ud3, Ud4: circles of one cell, of two, of three and of all: each cell once at most.
func TestChainOfCircles(t *testing.T) {
	for cell := 1; cell <= 6; cell++ {
		wantChain(t, with(of(6), cell, insert(1, 5, cell)), cell, cell)
	}
	two := of(6, insert(1, 5, 2), insert(1, 7, 1))
	wantChain(t, two, 1, 1)
	wantChain(t, two, 2, 2, 1)
	three := of(6, insert(1, 5, 2), insert(1, 7, 3), insert(1, 6, 1))
	wantChain(t, three, 1, 1)
	wantChain(t, three, 2, 2, 3, 1)
	wantChain(t, three, 3, 3, 1)
	other := of(6, insert(1, 5, 3), insert(1, 7, 1), insert(1, 6, 2))
	wantChain(t, other, 1, 1)
	wantChain(t, other, 2, 2, 1)
	wantChain(t, other, 3, 3)
	wantChain(t, of(6, insert(1, 9, 2), insert(1, 7, 3), insert(1, 8, 2)), 1, 1, 2) // a circle behind a beginning
	for _, n := range []int{6, 378} {
		order := []int{}
		for cell := n; cell >= 1; cell-- {
			order = append(order, cell)
		}
		l := inRow(n, order)
		l[0].Prev = n
		wantChain(t, l, n, order...)
		wantChain(t, l, 1, 1)
	}
}

// Ud1, Ud3, Ud4: all lists of six cells of which three are of a few numbers are held against the chapter's words; a chain has each cell once at most, of one Tx, and its numbers fall.
func TestSmallCells(t *testing.T) {
	parts := []api.Undo{{}}
	for _, tx := range []int{1, 2} {
		for _, no := range []int{1, 2, 3} {
			for _, prev := range []int{0, 1, 3, 4, 6, 7} {
				parts = append(parts, insert(tx, no, prev))
			}
		}
	}
	longest, is, none := 0, 0, 0
	for _, a := range parts {
		for _, b := range parts {
			for _, c := range parts {
				l := of(6, a, api.Undo{}, b, c)
				if e := Check(l); (e == api.OK) != slowCheck(l) {
					t.Fatalf("Check of %s = %d", brief(l), e)
				}
				if !slowCheck(l) {
					none++
					continue
				}
				is++
				for cell := range 8 {
					got := Chain(l, cell)
					if !allAlike(got, slowChain(l, cell)) {
						t.Fatalf("Chain from %d of %s = %v", cell, brief(l), got)
					}
					wantFalling(t, l, got)
					longest = max(longest, len(got))
				}
			}
		}
	}
	if longest != 3 || is < 10000 || none < 10000 {
		t.Errorf("%d of cells, %d of none, and a chain of %d: too few to tell", is, none, longest)
	}
}

// wantFalling holds that a chain has each cell once at most.
func wantFalling(t *testing.T, l, chain []api.Undo) {
	t.Helper()
	n := numbersOf(chain)
	for i := 1; i < len(n); i++ {
		if n[i] >= n[i-1] || chain[i].Tx != chain[0].Tx {
			t.Fatalf("a chain of %s has the numbers %v", brief(l), n)
		}
	}
	for _, no := range n {
		if !slices.Contains(numbersOf(l), no) {
			t.Fatalf("a chain of %s has the number %d", brief(l), no)
		}
	}
}

// strewnUndo is one of a few numbers, mostly one that may be.
func strewnUndo(r *rand.Rand, cells int) api.Undo {
	u := insert(1+r.IntN(2), 1+r.IntN(3*cells), r.IntN(cells+2))
	if r.IntN(2) == 0 {
		u = update(u.Tx, u.No, u.Prev, make([]float64, r.IntN(5))...)
	}
	switch r.IntN(40) {
	case 0:
		u.Tx = 0
	case 1:
		u.No = -r.IntN(2)
	case 2:
		u.Kind = 3 - u.Kind
		u.Row.Writer = -1
	case 3:
		u.Prev = 65536
	}
	return u
}

// Ud2, Ud3, Ud4: strewn Puts and Drops, one behind the other, are held against the chapter's words: what was put is got, till it is dropped, then never more.
func TestStrewnCalls(t *testing.T) {
	r := rand.New(rand.NewPCG(14, 2))
	seen := map[string]int{}
	for round := range 60 {
		n := []int{6, 6, 12, 18}[round%4]
		l, fresh := of(n), 100
		there, gone := map[int]api.Undo{}, map[api.Roll]int{}
		for range 150 {
			if r.IntN(5) < 3 {
				u := strewnUndo(r, n)
				if r.IntN(2) == 0 {
					fresh++
					u.No = fresh // none that was ever there
				}
				got := put(l, u)
				want(t, "Put", l, got, slowPut(l, u))
				seen[fmt.Sprint("Put", got.e)]++
				l = got.l
				if got.e == api.OK {
					there[got.n] = u
					delete(gone, api.Roll{Cell: got.n, No: u.No}) // that very number again
				}
			} else {
				cell := r.IntN(n+3) - 1
				got := drop(l, cell)
				want(t, "Drop", l, got, slowDrop(l, cell))
				seen[fmt.Sprint("Drop", got.e)]++
				l = got.l
				if got.e == api.OK {
					gone[api.Roll{Cell: cell, No: there[cell].No}]++
					delete(there, cell)
				}
			}
			wantThere(t, l, there, gone)
			wantAsked(t, l)
		}
	}
	for _, k := range []string{"Put0", "Put1", "Put9", "Drop0", "Drop3"} {
		if seen[k] < 100 {
			t.Errorf("%s was told %d times: too few to tell (%v)", k, seen[k], seen)
		}
	}
}

// wantThere holds that what was put is got, and what was dropped is not.
func wantThere(t *testing.T, l []api.Undo, there map[int]api.Undo, gone map[api.Roll]int) {
	t.Helper()
	if Used(l) != len(there) {
		t.Fatalf("%d are used in %s", Used(l), brief(l))
	}
	for cell, u := range there {
		if got, ok := Get(l, api.Roll{Cell: cell, No: u.No}); !ok || !alike(got, u) {
			t.Fatalf("%v, put into %d, is %v, %v", u, cell, got, ok)
		}
	}
	for at := range gone {
		if got, ok := Get(l, at); ok || !slowEmpty(got) {
			t.Fatalf("%v was dropped, but is %v", at, got)
		}
	}
}

// Ud1, Ud2, Ud3: strewn cells, that may be or not, are held against the chapter's words.
func TestStrewnCells(t *testing.T) {
	r := rand.New(rand.NewPCG(14, 3))
	is, none := 0, 0
	for range 6000 {
		n := []int{6, 12, 18, 5, 7}[r.IntN(5)*r.IntN(2)]
		l := of(n)
		numbers := r.Perm(4 * n)
		for i := range l {
			if r.IntN(3) > 0 {
				l[i] = insert(1+r.IntN(2), 1+numbers[i], r.IntN(n+2))
			}
			if r.IntN(30) == 0 {
				l[i] = strewnUndo(r, n)
			}
		}
		if slowCheck(l) {
			is++
		} else {
			none++
		}
		wantAsked(t, l)
		for range 3 {
			u := strewnUndo(r, n)
			want(t, fmt.Sprintf("Put %v", u), l, put(l, u), slowPut(l, u))
		}
		for cell := -1; cell <= n+1; cell++ {
			want(t, fmt.Sprintf("Drop %d", cell), l, drop(l, cell), slowDrop(l, cell))
		}
	}
	if is < 1000 || none < 500 {
		t.Errorf("%d of cells, %d of none: too few to tell", is, none)
	}
}

// spoil writes over cells, their rows' columns, and the spare room of both.
func spoil(l []api.Undo) {
	l = l[:cap(l)]
	for i := range l {
		cols := l[i].Row.Cols[:cap(l[i].Row.Cols)]
		for j := range cols {
			cols[j] = -777
		}
		l[i] = insert(-7, -7, -7)
	}
}

// roomy is cells with something behind them, and behind each list of columns; and those lists with all of their room.
func roomy(l []api.Undo) (given, room []api.Undo, cols [][]float64) {
	for _, u := range l {
		wide := append(slices.Clone(u.Row.Cols), 31, 32, 33)
		u.Row.Cols = wide[:len(u.Row.Cols)]
		room, cols = append(room, u), append(cols, wide)
	}
	room = append(room, insert(6, 60, 6), update(7, 70, 7, 77))
	return room[:len(l)], room, cols
}

// asWas holds that what was handed in is left: its cells, what lies behind them, and their columns with what lies behind these.
func asWas(t *testing.T, name string, l, room []api.Undo, cols [][]float64) {
	t.Helper()
	must := append(clone(l), insert(6, 60, 6), update(7, 70, 7, 77))
	if !allAlike(room, must) {
		t.Errorf("%s has changed what it was given: %s", name, brief(room))
	}
	for i, u := range l {
		if !slices.Equal(bitsOf(cols[i]), bitsOf(append(slices.Clone(u.Row.Cols), 31, 32, 33))) {
			t.Errorf("%s has changed the columns that it was given: %v", name, cols[i])
		}
	}
}

// keepers are cells, good and bad, with rows that have columns.
func keepers() [][]api.Undo {
	return [][]api.Undo{
		nil, of(6), full(6), full(12), holed(6, 2), holed(12, 1, 7, 12), of(5, update(1, 5, 0, 6)),
		of(6, update(1, 5, 0, 1, 2, 3, 4), update(1, 7, 1, 5), insert(1, 9, 2)),
		of(6, update(1, 5, 0, 1), update(1, 5, 0, 2)), of(6, update(0, 5, 0, 1)),
	}
}

// R3: what is handed in to Put and Drop is left, with what lies behind it, and what is told shares nothing with it or with another answer, beside an error too.
func TestTurnsLeave(t *testing.T) {
	type turn struct {
		name string
		do   func(l []api.Undo) told
		slow func(l []api.Undo) told
	}
	var turns []turn
	for cell := range 14 {
		turns = append(turns, turn{fmt.Sprintf("Drop %d", cell),
			func(l []api.Undo) told { return drop(l, cell) }, func(l []api.Undo) told { return slowDrop(l, cell) }})
	}
	for _, u := range append(goodUndos(), update(1, 1000, 0, 5, 6), update(0, 5, 0, 1), update(1, 5, 0, 1), update(1, 6, 0, 1)) {
		turns = append(turns, turn{fmt.Sprintf("Put %v", u),
			func(l []api.Undo) told { return put(l, u) }, func(l []api.Undo) told { return slowPut(l, u) }})
	}
	for _, l := range keepers() {
		for _, x := range turns {
			must := x.slow(l)
			given, room, cols := roomy(l)
			one, two := x.do(given), x.do(given)
			spoil(one.l)
			asWas(t, x.name, l, room, cols)
			spoil(room)
			want(t, x.name+" with memory of its own", l, two, must)
		}
	}
}

// R3: the undoing that is put is not kept, nor changed, with what lies behind its columns.
func TestPutKeepsNothing(t *testing.T) {
	for _, l := range [][]api.Undo{of(6), holed(12, 4, 5), full(6)} {
		for _, u := range goodUndos() {
			given, _, cols := roomy([]api.Undo{u})
			must := slowPut(l, u)
			one, two := put(l, given[0]), put(l, given[0])
			spoil(one.l)
			if !alike(given[0], u) || !slices.Equal(cols[0][len(u.Row.Cols):], []float64{31, 32, 33}) {
				t.Errorf("Put has changed %v to %v, %v", u, given[0], cols[0])
			}
			for i := range cols[0] {
				cols[0][i] = -777
			}
			want(t, "Put with memory of its own", l, two, must)
		}
	}
}

// R3: what only asks leaves what is handed in, with what lies behind it, and what is told shares nothing with it or with another answer.
func TestAsksLeave(t *testing.T) {
	for _, l := range keepers() {
		for cell := range 14 {
			given, room, cols := roomy(l)
			no := 0
			for _, u := range slowAt(l, cell) {
				no = u.No
			}
			at := api.Roll{Cell: cell, No: no}
			Check(given)
			Free(given)
			Used(given)
			u, _ := Get(given, at)
			v, is := Get(given, at)
			one, two := Chain(given, cell), Chain(given, cell)
			spoil([]api.Undo{u})
			spoil(one)
			asWas(t, fmt.Sprintf("a call on %d", cell), l, room, cols)
			spoil(room)
			if must, ok := slowGet(l, at); is != ok || !alike(v, must) {
				t.Errorf("Get %v has changed to %v with other memory", at, v)
			}
			if !allAlike(two, slowChain(l, cell)) {
				t.Errorf("Chain from %d has changed to %v with other memory", cell, two)
			}
		}
	}
}

// R3: no two undoings of one answer share columns, though those that were handed in do.
func TestSharedColumns(t *testing.T) {
	cols := []float64{1, 2}
	l := of(6, update(1, 5, 0), update(1, 7, 1))
	l[0].Row.Cols, l[1].Row.Cols = cols, cols
	third := update(1, 9, 2)
	third.Row.Cols = cols
	apart := func(name string, l []api.Undo) {
		t.Helper()
		l[0].Row.Cols[0] = -5
		for i, u := range l[1:] {
			if len(u.Row.Cols) > 0 && u.Row.Cols[0] != 1 {
				t.Errorf("%s: undoing %d of the answer shares its columns with the first", name, i+1)
			}
		}
		if cols[0] != 1 {
			t.Fatalf("%s: the answer shares its columns with what was handed in", name)
		}
	}
	apart("Put", put(l, third).l)
	apart("Drop", drop(append(clone(l[:2]), l[2:]...), 2).l)
	apart("Drop that is refused", drop(l, 6).l)
	apart("Chain", Chain(l, 2))
	u, _ := Get(l, api.Roll{Cell: 1, No: 5})
	apart("Get", []api.Undo{u})
}

// R4: asked again, behind an error too, the same is told.
func TestAgain(t *testing.T) {
	for _, s := range goodCells() {
		for _, cell := range []int{0, 1, 3, len(s.l)} {
			x := drop(s.l, cell)
			wantDrop(t, nil, 1, nil, api.ErrArg)
			want(t, "Drop again", s.l, drop(s.l, cell), x)
		}
		for _, u := range goodUndos() {
			x := put(s.l, u)
			wantPut(t, nil, u, nil, 0, api.ErrArg)
			want(t, "Put again", s.l, put(s.l, u), x)
		}
	}
}
