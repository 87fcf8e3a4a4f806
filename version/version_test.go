package version

import (
	"bytes"
	"encoding/binary"
	"fmt"
	"math"
	"math/rand/v2"
	"slices"
	"testing"

	"humus/api"
)

const (
	most    = 1<<31 - 1
	theNaN  = 0x7FF8000000000001
	minusNo = 1 << 63 // the bits of the 0 with a sign
	atMost  = 400     // how many are passed at most, as the document writes it down
)

func ofBits(b uint64) float64 { return math.Float64frombits(b) }

func nan() float64 { return ofBits(theNaN) }

func bitsOf(l []float64) []uint64 {
	b := []uint64{}
	for _, x := range l {
		b = append(b, math.Float64bits(x))
	}
	return b
}

func roll(cell, no int) api.Roll { return api.Roll{Cell: cell, No: no} }

// by is a row as somebody wrote it, over nothing that is told.
func by(writer int, key float64, cols ...float64) api.Row {
	return api.Row{Key: key, Writer: writer, Cols: cols}
}

// deadBy is a row as somebody dropped it.
func deadBy(writer int, key float64) api.Row { return api.Row{Key: key, Writer: writer, Dead: true} }

// over is a row whose elder one is the undoing of a cell, and of that number.
func over(cell, no int, r api.Row) api.Row {
	r.Roll = roll(cell, no)
	return r
}

// insert is an undoing of a row that was not there.
func insert(no int) api.Undo { return api.Undo{Kind: 1, Tx: 90, No: no} }

// update is an undoing of a row that was so; whose it is does not count.
func update(no int, was api.Row) api.Undo { return api.Undo{Kind: 2, Tx: 91, No: no, Row: was} }

// on is an undoing of a row on that leaf.
func on(page int, u api.Undo) api.Undo {
	u.Page = page
	return u
}

// cells are so many cells, with these first, and empty ones behind them.
func cells(n int, l ...api.Undo) []api.Undo {
	all := make([]api.Undo, n)
	copy(all, l)
	return all
}

// text is a row's bytes on a leaf, by the words of layers 4 and 15: whether it may be is not asked.
func text(r api.Row) []byte {
	b := []byte{0}
	if r.Dead {
		b[0] = 1
	}
	b = binary.BigEndian.AppendUint64(b, math.Float64bits(r.Key))
	b = binary.BigEndian.AppendUint32(b, uint32(r.Writer))
	b = binary.BigEndian.AppendUint16(b, uint16(r.Roll.Cell))
	b = binary.BigEndian.AppendUint32(b, uint32(r.Roll.No))
	b = append(b, byte(len(r.Cols)))
	for _, x := range r.Cols {
		b = binary.BigEndian.AppendUint64(b, math.Float64bits(x))
	}
	for len(b) < 52 {
		b = append(b, 0)
	}
	return b
}

// leaf is one of these rows, slot by slot, on which somebody writes.
func leaf(rows ...api.Row) api.Leaf {
	x := api.Leaf{Itl: []int{0, 7, 0, 3}}
	for _, r := range rows {
		x.Slots = append(x.Slots, text(r))
	}
	return x
}

// blank is so many leaves without rows.
func blank(n int) []api.Leaf {
	l := []api.Leaf{}
	for range n {
		l = append(l, leaf())
	}
	return l
}

func first() api.Table { return api.Table{NextTx: 1, NextNo: 1, Entries: make([]api.Entry, 12)} }

// base is one of these cells and leaves.
func base(c []api.Undo, l ...api.Leaf) api.Base {
	return api.Base{Table: first(), Cells: c, Leaves: l}
}

// one is a base of one leaf of these rows, and six cells, these first.
func one(rows []api.Row, l ...api.Undo) api.Base { return base(cells(6, l...), leaf(rows...)) }

// clone is a base with nothing in common.
func clone(b api.Base) api.Base {
	c := api.Base{Table: b.Table}
	c.Table.Entries = slices.Clone(b.Table.Entries)
	for _, u := range b.Cells {
		u.Row.Cols = slices.Clone(u.Row.Cols)
		c.Cells = append(c.Cells, u)
	}
	for _, x := range b.Leaves {
		y := api.Leaf{Itl: slices.Clone(x.Itl)}
		for _, s := range x.Slots {
			y.Slots = append(y.Slots, bytes.Clone(s))
		}
		c.Leaves = append(c.Leaves, y)
	}
	return c
}

// alike goes part by part, numbers by their bits: what is told must not hang on the layers below.
func alike(a, b api.Row) bool {
	return math.Float64bits(a.Key) == math.Float64bits(b.Key) && a.Dead == b.Dead && slices.Equal(bitsOf(a.Cols), bitsOf(b.Cols)) &&
		a.Writer == b.Writer && a.Roll == b.Roll
}

func allAlike(a, b []api.Row) bool { return slices.EqualFunc(a, b, alike) }

func undoAlike(a, b api.Undo) bool {
	return a.Tx == b.Tx && a.No == b.No && a.Prev == b.Prev && a.Kind == b.Kind && a.Page == b.Page && a.Slot == b.Slot && alike(a.Row, b.Row)
}

func leafAlike(a, b api.Leaf) bool {
	return slices.Equal(a.Itl, b.Itl) && slices.EqualFunc(a.Slots, b.Slots, bytes.Equal)
}

func baseAlike(a, b api.Base) bool {
	return a.Table.NextTx == b.Table.NextTx && a.Table.NextNo == b.Table.NextNo && a.Table.Commits == b.Table.Commits &&
		slices.Equal(a.Table.Entries, b.Table.Entries) && slices.EqualFunc(a.Cells, b.Cells, undoAlike) && slices.EqualFunc(a.Leaves, b.Leaves, leafAlike)
}

// The calls by the words of the chapter, and of the layers 1, 4, 8, 9, 11 and 14 to 16, as plainly as can be.

func slowKey(x float64) uint64 {
	if x != x {
		return theNaN
	}
	return math.Float64bits(x + 0) // -0 and 0 are 0
}

// slowAhead tells whether a's key is ahead of b's.
func slowAhead(a, b float64) bool {
	if a != a {
		return false
	}
	return b != b || a < b
}

func slowIn(n, least, last int) bool { return least <= n && n <= last }

func slowRow(r api.Row) bool {
	good := slowKey(r.Key) == math.Float64bits(r.Key) && len(r.Cols) <= 4 && (!r.Dead || len(r.Cols) == 0)
	for _, x := range r.Cols {
		good = good && (x == x || math.Float64bits(x) == theNaN)
	}
	good = good && slowIn(r.Writer, 0, most) && slowIn(r.Roll.Cell, 0, 65535) && slowIn(r.Roll.No, 0, most)
	return good && (r.Roll.Cell > 0 || r.Roll.No == 0)
}

func slowTable(t api.Table) bool {
	good := slowIn(t.NextTx, 1, most) && slowIn(t.NextNo, 1, most) && slowIn(t.Commits, 0, most) && len(t.Entries) == 12
	txs, commits := map[int]int{}, map[int]int{}
	for _, e := range t.Entries {
		if e == (api.Entry{}) {
			continue
		}
		txs[e.Tx]++
		good = good && slowIn(e.Tx, 1, t.NextTx-1) && txs[e.Tx] == 1 && slowIn(e.Last, 0, 65535) && slowIn(e.State, 1, 2)
		if e.State == 1 {
			good = good && e.Commit == 0
		} else {
			commits[e.Commit]++
			good = good && slowIn(e.Commit, 1, t.Commits) && commits[e.Commit] == 1
		}
	}
	return good
}

func slowEmpty(u api.Undo) bool { return undoAlike(u, api.Undo{}) }

func slowUndo(u api.Undo) bool {
	good := slowIn(u.Tx, 1, most) && slowIn(u.No, 1, most) && slowIn(u.Prev, 0, 65535) && slowIn(u.Page, 0, 255) && slowIn(u.Slot, 0, 255)
	return good && (u.Kind == 1 && alike(u.Row, api.Row{}) || u.Kind == 2 && slowRow(u.Row))
}

func slowCells(l []api.Undo) bool {
	good := slowIn(len(l), 6, 378) && len(l)/6*6 == len(l)
	times := map[int]int{}
	for _, u := range l {
		if !slowEmpty(u) {
			times[u.No]++
			good = good && slowUndo(u) && times[u.No] == 1
		}
	}
	return good
}

func slowLeaf(x api.Leaf) bool {
	good := len(x.Itl) == 4 && len(x.Slots) <= 64
	times := map[int]int{}
	for _, w := range x.Itl {
		times[w]++
		good = good && slowIn(w, 0, most) && (w == 0 || times[w] == 1)
	}
	need := 18
	for i, s := range x.Slots {
		need += 1 + len(s)
		good = good && len(s) <= 255 && (len(s) > 0 || i < len(x.Slots)-1)
	}
	return good && need <= 508
}

// slowText is the row of a slot's bytes; that they are its bytes is told by making them again.
func slowText(b []byte) (api.Row, bool) {
	if len(b) != 52 {
		return api.Row{}, false
	}
	r := api.Row{Dead: b[0] == 1, Key: ofBits(binary.BigEndian.Uint64(b[1:])), Writer: int(binary.BigEndian.Uint32(b[9:]))}
	r.Roll = roll(int(binary.BigEndian.Uint16(b[13:])), int(binary.BigEndian.Uint32(b[15:])))
	for i := 0; i < int(b[19]) && i < 4; i++ {
		r.Cols = append(r.Cols, ofBits(binary.BigEndian.Uint64(b[20+8*i:])))
	}
	if !slowRow(r) || !bytes.Equal(text(r), b) {
		return api.Row{}, false
	}
	return r, true
}

// slowStand are all rows of leaves, by rising key; false: the leaves may not be.
func slowStand(l []api.Leaf) ([]api.Row, bool) {
	good := slowIn(len(l), 1, 62)
	left := []api.Row{}
	times := map[uint64]int{}
	for _, x := range l {
		good = good && slowLeaf(x)
		for _, s := range x.Slots {
			if len(s) > 0 {
				r, ok := slowText(s)
				times[slowKey(r.Key)]++
				good = good && ok && times[slowKey(r.Key)] == 1
				left = append(left, r)
			}
		}
	}
	if !good {
		return nil, false
	}
	rows := []api.Row{}
	for len(left) > 0 {
		least := 0
		for i := range left {
			if slowAhead(left[i].Key, left[least].Key) {
				least = i
			}
		}
		rows = append(rows, left[least])
		left = slices.Delete(left, least, least+1)
	}
	return rows, true
}

func slowCheck(b api.Base) bool {
	_, good := slowStand(b.Leaves)
	good = good && slowTable(b.Table) && slowCells(b.Cells)
	for _, u := range b.Cells {
		good = good && (slowEmpty(u) || u.Page < len(b.Leaves))
	}
	return good
}

func slowView(v api.View) bool {
	good := slowIn(v.Self, 0, most) && slowIn(v.Next, 0, most) && len(v.Active) <= 64
	for i, a := range v.Active {
		good = good && slowIn(a, 1, v.Next-1) && a != v.Self && (i == 0 || v.Active[i-1] < a)
	}
	return good
}

func slowSees(v api.View, writer int) bool {
	if writer == 0 || writer == v.Self {
		return true
	}
	for _, a := range v.Active {
		if a == writer {
			return false
		}
	}
	return writer < v.Next
}

// told is what is told of one row: rows has it, if there is one.
type told struct {
	rows  []api.Row
	newer []int
	e     api.Errno
}

// slowOf is what a view sees of a version of a row, these writers having been passed already.
func slowOf(b api.Base, v api.View, r api.Row, passed []int) told {
	if slowSees(v, r.Writer) && r.Dead {
		return told{nil, passed, api.OK}
	}
	if slowSees(v, r.Writer) {
		return told{[]api.Row{r}, passed, api.OK}
	}
	if len(passed) == atMost {
		return told{nil, passed, api.ErrOld}
	}
	passed = append(passed, r.Writer)
	for i, u := range b.Cells {
		switch {
		case slowEmpty(u) || i+1 != r.Roll.Cell || u.No != r.Roll.No:
			continue
		case u.Kind == 1:
			return told{nil, passed, api.OK}
		}
		return slowOf(b, v, u.Row, passed)
	}
	return told{nil, passed, api.ErrOld}
}

func slowRead(b api.Base, v api.View, key float64) told {
	if !slowCheck(b) || !slowView(v) {
		return told{e: api.ErrArg}
	}
	stand, _ := slowStand(b.Leaves)
	for _, r := range stand {
		if slowKey(r.Key) == slowKey(key) {
			return slowOf(b, v, r, nil)
		}
	}
	return told{}
}

// slowRising is each of the numbers once, rising: those that are the least of all that are above the last one.
func slowRising(l []int) []int {
	rising := []int{}
	for last := -1; ; {
		above := []int{}
		for _, n := range l {
			if n > last {
				above = append(above, n)
			}
		}
		if len(above) == 0 {
			return rising
		}
		last = slices.Min(above)
		rising = append(rising, last)
	}
}

func slowScan(b api.Base, v api.View, lo, hi float64) told {
	if !slowCheck(b) || !slowView(v) {
		return told{e: api.ErrArg}
	}
	all := told{}
	stand, _ := slowStand(b.Leaves)
	for _, r := range stand {
		if !slowAhead(r.Key, lo) && slowAhead(r.Key, hi) {
			x := slowOf(b, v, r, nil)
			all.rows = append(all.rows, x.rows...)
			all.newer = append(all.newer, x.newer...)
			all.e = max(all.e, x.e)
		}
	}
	all.newer = slowRising(all.newer)
	if all.e != api.OK {
		all.rows = nil
	}
	return all
}

// read is what Read tells; beside false it must tell the zero row.
func read(t *testing.T, b api.Base, v api.View, key float64) told {
	t.Helper()
	r, ok, newer, e := Read(b, v, key)
	if !ok && !alike(r, api.Row{}) {
		t.Fatalf("Read(%s, %v, %v) = %v, and false", brief(b), v, key, r)
	}
	if ok {
		return told{[]api.Row{r}, newer, e}
	}
	return told{nil, newer, e}
}

func scan(b api.Base, v api.View, lo, hi float64) told {
	rows, newer, e := Scan(b, v, lo, hi)
	return told{rows, newer, e}
}

// brief is a base in a few words: it may be great.
func brief(b api.Base) string {
	rows, ok := slowStand(b.Leaves)
	return fmt.Sprintf("%d leaves (%t) of %.300s, %d cells of %.300s", len(b.Leaves), ok, fmt.Sprint(rows), len(b.Cells), fmt.Sprint(b.Cells))
}

func same(a, b told) bool {
	return allAlike(a.rows, b.rows) && slices.Equal(a.newer, b.newer) && a.e == b.e
}

func wantCheck(t *testing.T, b api.Base, good bool) {
	t.Helper()
	must := api.ErrArg
	if good {
		must = api.OK
	}
	if e := Check(b); e != must || slowCheck(b) != good {
		t.Fatalf("Check(%v, %s): error %d, by the words %t, not %d", b.Table, brief(b), e, slowCheck(b), must)
	}
}

func wantRead(t *testing.T, b api.Base, v api.View, key float64, must told) {
	t.Helper()
	if got := read(t, b, v, key); !same(got, must) {
		t.Fatalf("Read(%s, %v, %v) = %v, not %v", brief(b), v, key, got, must)
	}
	if slow := slowRead(b, v, key); !same(slow, must) {
		t.Fatalf("Read(%s, %v, %v) is by the words %v, not %v", brief(b), v, key, slow, must)
	}
}

func wantScan(t *testing.T, b api.Base, v api.View, lo, hi float64, must told) {
	t.Helper()
	if got := scan(b, v, lo, hi); !same(got, must) {
		t.Fatalf("Scan(%s, %v, %v, %v) = %v, not %v", brief(b), v, lo, hi, got, must)
	}
	if slow := slowScan(b, v, lo, hi); !same(slow, must) {
		t.Fatalf("Scan(%s, %v, %v, %v) is by the words %v, not %v", brief(b), v, lo, hi, slow, must)
	}
}

// found, none and old are what is told of a row that is seen, of one that is not, and of one that is too old.
func found(r api.Row, newer ...int) told { return told{[]api.Row{r}, newer, api.OK} }
func none(newer ...int) told             { return told{nil, newer, api.OK} }
func old(newer ...int) told              { return told{nil, newer, api.ErrOld} }
func wrong() told                        { return told{nil, nil, api.ErrArg} }

// seeing is a view of one who has no number, of those below next, but these.
func seeing(next int, active ...int) api.View { return api.View{Next: next, Active: active} }

type sample struct {
	name string
	b    api.Base
}

// some is a base with a bit of all in it.
func some() api.Base {
	b := base(cells(12,
		on(1, update(1, by(2, 3, 1))),
		on(0, insert(2)),
		api.Undo{},
		on(2, update(9, over(1, 1, by(5, 3, 4, 4)))),
		api.Undo{},
		on(2, update(7, deadBy(3, 8)))),
		leaf(over(4, 9, by(6, 3, 2)), over(2, 2, by(7, -4)), by(1, nan(), 7)),
		leaf(by(0, 0, math.Copysign(0, -1), nan()), over(6, 7, by(8, 8))),
		leaf())
	b.Table = api.Table{NextTx: 9, NextNo: 10, Commits: 4, Entries: make([]api.Entry, 12)}
	b.Table.Entries[1] = api.Entry{Tx: 7, State: 1, Last: 2}
	b.Table.Entries[11] = api.Entry{Tx: 6, State: 2, Last: 4, Commit: 4}
	return b
}

// full is a base as great as can be: 62 leaves of nine rows each, and 378 cells in a row, from the last one to the first; the row of the key 0 is over the last one.
func full() api.Base {
	b := base(chain(378, update(1, by(1, 0, 1))), blank(62)...)
	for i := range 62 * 9 {
		r := by(i%7, float64(i), float64(-i))
		if i == 0 {
			r = over(378, 378, by(1000, 0, 5))
		}
		b.Leaves[i%62].Slots = append(b.Leaves[i%62].Slots, text(r))
	}
	for i := range b.Cells {
		b.Cells[i].Page = i % 62
	}
	return b
}

// chain is so many cells of rows of the key 0, each over the one ahead; that of the first is given. The n-th is number n, and of the writer n + 500.
func chain(n int, least api.Undo) []api.Undo {
	l := []api.Undo{least}
	for i := 2; i <= n; i++ {
		l = append(l, update(i, over(i-1, i-1, by(500+i, 0, float64(i)))))
	}
	return l
}

// goodBases are bases that may be.
func goodBases() []sample {
	holes := base(cells(18), blank(3)...)
	holes.Cells[0], holes.Cells[17] = on(2, insert(1)), on(2, update(2, by(1, 1)))
	gap := base(cells(6), api.Leaf{Itl: []int{most, 0, 1, 2}, Slots: [][]byte{nil, text(by(3, 1)), {}, text(by(3, 0))}})
	return []sample{
		{"nothing", base(cells(6), blank(1)...)},
		{"nothing on many", base(cells(378), blank(62)...)},
		{"one row", one([]api.Row{by(1, 1, 1)})},
		{"a bit of all", some()},
		{"all that can be", full()},
		{"the last leaf's number in the first and last cell", holes},
		{"slots that are empty", gap},
		{"an undoing of a row that is not there", one(nil, update(3, by(3, 3)))},
		{"a row over a cell that is not there", one([]api.Row{over(65535, most, by(most, 1))})},
		{"rows over themselves", one([]api.Row{over(1, 1, by(9, 1))}, update(1, over(1, 1, by(9, 1))))},
		{"undoings of other keys", one([]api.Row{over(1, 1, by(9, 1))}, update(1, by(2, nan())))},
	}
}

// badTables are tables that may not be.
func badTables() []api.Table {
	l := []api.Table{{}, {NextTx: 1, NextNo: 1}}
	for _, turn := range []func(t *api.Table){
		func(t *api.Table) { t.NextTx = 0 },
		func(t *api.Table) { t.NextTx = most + 1 },
		func(t *api.Table) { t.NextTx = 7 },
		func(t *api.Table) { t.NextNo = 0 },
		func(t *api.Table) { t.NextNo = most + 1 },
		func(t *api.Table) { t.Commits = -1 },
		func(t *api.Table) { t.Commits = 3 },
		func(t *api.Table) { t.Entries = t.Entries[:11] },
		func(t *api.Table) { t.Entries = append(t.Entries, api.Entry{}) },
		func(t *api.Table) { t.Entries[0].Last = 1 },
		func(t *api.Table) { t.Entries[1].Commit = 1 },
		func(t *api.Table) { t.Entries[11].State = 3 },
		func(t *api.Table) { t.Entries[11].Tx = 7 },
	} {
		t := clone(some()).Table
		turn(&t)
		l = append(l, t)
	}
	return l
}

// badCells are cells that may not be, whose places are all on the first leaf.
func badCells() [][]api.Undo {
	l := [][]api.Undo{nil, {}, cells(1), cells(5), cells(7), cells(8), cells(377), cells(384)}
	for _, u := range []api.Undo{
		insert(0), insert(-1), insert(most + 1), on(-1, insert(5)), on(-1<<32, insert(5)), update(5, by(-1, 1)), update(5, by(most+1, 1)),
		update(5, over(0, 1, by(1, 1))), update(5, by(1, ofBits(minusNo))), update(5, by(1, ofBits(theNaN+1))), update(5, by(1, 1, 1, 2, 3, 4, 5)),
		{Kind: 1, No: 5}, {Kind: 1, Tx: 1}, {Kind: 3, Tx: 1, No: 5}, {Kind: 1, Tx: 1, No: 5, Row: by(1, 0)}, {Tx: 1, No: 5}, {Slot: 1}, {Row: by(1, 0)}, {Row: by(0, ofBits(minusNo))},
	} {
		head, tail := cells(12, u, insert(7)), cells(12, insert(7))
		tail[11] = u
		l = append(l, head, tail)
	}
	twice := cells(12, insert(3))
	twice[11] = update(3, by(1, 1))
	return append(l, twice)
}

// badLeaves are leaves that may not be.
func badLeaves() [][]api.Leaf {
	odd := leaf(by(1, 1))
	l := [][]api.Leaf{nil, {}, blank(63), {{}}, {{Itl: []int{0, 0, 0}}}, {{Itl: []int{1, 0, 0, 1}}}, {{Itl: []int{0, 0, 0, -1}}}}
	l = append(l, []api.Leaf{leaf(by(1, 1), by(1, 2), by(1, 1))}, []api.Leaf{leaf(by(1, 1)), leaf(), leaf(by(2, 1, 5))}, []api.Leaf{leaf(deadBy(1, nan())), leaf(by(2, nan()))})
	for _, b := range [][]byte{{1}, odd.Slots[0][:51], append(bytes.Clone(odd.Slots[0]), 0), nil, text(by(1, ofBits(minusNo))), text(over(0, 1, by(1, 2))), text(by(most+1, 2)), text(api.Row{Dead: true, Cols: []float64{1}})} {
		l = append(l, []api.Leaf{{Itl: []int{0, 0, 0, 0}, Slots: [][]byte{text(by(1, 1)), b}}})
	}
	return l
}

// badBases are bases of which one part alone may not be.
func badBases() []sample {
	l := []sample{{"the zero one", api.Base{}}}
	for i, x := range badTables() {
		b := some()
		b.Table = x
		l = append(l, sample{fmt.Sprintf("table %d", i), b})
	}
	for i, x := range badCells() {
		b := some()
		b.Cells = x
		l = append(l, sample{fmt.Sprintf("cells %d", i), b})
	}
	for i, x := range badLeaves() {
		b := some()
		b.Leaves = x
		if len(x) < 3 { // the places of the undoings are not to blame
			b.Cells = cells(6)
		}
		l = append(l, sample{fmt.Sprintf("leaves %d", i), b})
	}
	return append(l, farBases()...)
}

// farBases are bases that may not be for the place of an undoing alone.
func farBases() []sample {
	l := []sample{}
	for _, leaves := range []int{1, 2, 3, 61, 62} {
		for _, page := range []int{leaves, leaves + 1, 2 * leaves, 200, 255} {
			for _, cell := range []int{1, 2, 6, 7, 12} {
				for _, u := range []api.Undo{insert(4), update(4, by(1, 1, 1))} {
					b := base(cells(12), blank(leaves)...)
					b.Cells[cell-1] = on(page, u)
					l = append(l, sample{fmt.Sprintf("an undoing of leaf %d of %d, in cell %d", page, leaves, cell), b})
				}
			}
		}
	}
	return l
}

// Vs1: bases that may be, and such as may not for each part alone.
func TestCheck(t *testing.T) {
	for _, s := range goodBases() {
		t.Run(s.name, func(t *testing.T) { wantCheck(t, s.b, true) })
	}
	for _, s := range badBases() {
		t.Run(s.name, func(t *testing.T) { wantCheck(t, s.b, false) })
	}
}

// Vs1: each part that may not be does so whatever the others are: beside the least of them, and beside those that may not be themselves.
func TestCheckOfEachPart(t *testing.T) {
	for _, x := range badTables() {
		wantCheck(t, api.Base{Table: x, Cells: cells(6), Leaves: blank(1)}, false)
		wantCheck(t, api.Base{Table: x, Leaves: blank(1)}, false)
		wantCheck(t, api.Base{Table: x, Cells: cells(6)}, false)
	}
	for _, x := range badCells() {
		wantCheck(t, base(x, blank(62)...), false)
		wantCheck(t, base(x), false)
	}
	for _, x := range badLeaves() {
		wantCheck(t, base(cells(6), x...), false)
		wantCheck(t, base(nil, x...), false)
	}
}

// Vs1: an undoing's place is below how many leaves there are, in the first cell, in the last one, and between empty ones.
func TestCheckPlaces(t *testing.T) {
	for _, leaves := range []int{1, 2, 3, 9, 62} {
		for _, n := range []int{6, 12, 378} {
			for _, cell := range []int{1, 2, n / 2, n - 1, n} {
				for page := range leaves + 3 {
					for _, u := range []api.Undo{insert(4), update(4, by(1, 1, 1))} {
						b := base(cells(n), blank(leaves)...)
						b.Cells[cell-1] = on(page, u)
						wantCheck(t, b, page < leaves)
					}
				}
			}
			b := base(cells(n, on(leaves-1, insert(1))), blank(leaves)...)
			b.Cells[n-1] = on(leaves-1, insert(2))
			wantCheck(t, b, true)
			b.Cells[n-1].Page = leaves
			wantCheck(t, b, false)
			b.Cells[0].Page, b.Cells[n-1].Page = leaves+1, 0
			wantCheck(t, b, false)
		}
	}
}

// Vs1: neither the places of entries and of slots, nor where rows lead to, is asked.
func TestCheckAsksNoMore(t *testing.T) {
	b := one([]api.Row{over(7, 1, by(1, 1)), over(1, 9, by(77, 2))}, update(1, over(40, 3, by(1, 5))))
	b.Table.NextTx, b.Table.Entries[3] = 50, api.Entry{Tx: 3, State: 1, Last: 65535}
	b.Cells[0].Slot, b.Cells[0].Prev = 255, 65535
	wantCheck(t, b, true)
}

// badViews are views that may not be.
func badViews() []api.View {
	return []api.View{
		{Self: -1, Next: 5}, {Self: most + 1, Next: 5}, {Next: -1}, {Next: most + 1}, seeing(5, 0), seeing(5, -1), seeing(5, 5), seeing(5, 2, 2), seeing(5, 3, 2),
		{Self: 3, Next: 5, Active: []int{3}}, seeing(0, 1), {Self: 2, Next: 99, Active: make([]int, 65)},
	}
}

// keys are keys and such as are none, also of rows that stand in the samples.
func keys() []float64 {
	return []float64{math.Inf(-1), -4, -1, ofBits(minusNo), 0, math.SmallestNonzeroFloat64, 1, 2, 3, 7.5, 8, 9, 557, math.MaxFloat64, math.Inf(1), nan(), math.NaN(), ofBits(1<<64 - 1)}
}

// Vs1, Vs2: of bases or views that may not be, each alone or both, nothing is told.
func TestWrong(t *testing.T) {
	good := seeing(9, 5)
	for _, s := range badBases() {
		t.Run(s.name, func(t *testing.T) {
			for _, v := range []api.View{good, {}, badViews()[0]} {
				for _, key := range []float64{3, 1, 99, nan()} {
					wantRead(t, s.b, v, key, wrong())
				}
				wantScan(t, s.b, v, math.Inf(-1), nan(), wrong())
				wantScan(t, s.b, v, 3, 4, wrong())
				wantScan(t, s.b, v, 4, 3, wrong())
			}
		})
	}
	for _, s := range goodBases() {
		t.Run(s.name, func(t *testing.T) {
			for _, v := range badViews() {
				for _, key := range keys() {
					wantRead(t, s.b, v, key, wrong())
				}
				wantScan(t, s.b, v, math.Inf(-1), nan(), wrong())
				wantScan(t, s.b, v, 3, 3, wrong())
			}
		})
	}
}

// Vs1: of a key that stands nowhere nothing is told, and nobody is newer.
func TestReadOfNoRow(t *testing.T) {
	for _, key := range keys() {
		wantRead(t, base(cells(6), blank(1)...), seeing(9), key, none())
		wantRead(t, base(cells(6), blank(62)...), seeing(0), key, none())
	}
	b := some()
	for _, v := range []api.View{{}, seeing(9), seeing(most), {Self: 6, Next: 7}} {
		for _, key := range []float64{math.Inf(-1), -4.5, 4, 3.0000000000000004, 7, 9, 1, 2, math.Inf(1)} {
			wantRead(t, b, v, key, none())
		}
	}
	// What an undoing says of that key is no row that stands.
	wantRead(t, one([]api.Row{over(1, 1, by(9, 1))}, update(1, by(2, 5, 1))), seeing(5), 5, none())
	wantRead(t, one(nil, update(1, by(2, 5, 1))), seeing(5), 5, none())
}

// Vs1: keys that are the same by layer 1 are the same here: the noughts, and all that are no numbers.
func TestReadOfSameKeys(t *testing.T) {
	null, no := over(1, 1, by(9, 0, 1)), over(2, 2, by(8, nan(), 2))
	b := one([]api.Row{no, null}, update(1, by(2, 0, -1)), update(2, by(3, nan(), -2)))
	for _, key := range []float64{0, ofBits(minusNo)} {
		wantRead(t, b, seeing(10), key, found(null))
		wantRead(t, b, seeing(5), key, found(by(2, 0, -1), 9))
		wantRead(t, b, seeing(1), key, old(9, 2))
	}
	for _, bits := range []uint64{theNaN, theNaN - 1, theNaN + 1, 0x7FF0000000000001, 0xFFF8000000000000, 1<<64 - 1} {
		wantRead(t, b, seeing(10), ofBits(bits), found(no))
		wantRead(t, b, seeing(5), ofBits(bits), found(by(3, nan(), -2), 8))
		wantRead(t, b, seeing(1), ofBits(bits), old(8, 3))
	}
	wantRead(t, b, seeing(10), math.SmallestNonzeroFloat64, none())
	wantRead(t, b, seeing(10), -math.SmallestNonzeroFloat64, none())
	wantRead(t, b, seeing(10), math.Inf(1), none())
}

// Vs1: a row that the view sees at once is told as it stands, wherever its Roll leads, and nobody is newer; bits of columns count.
func TestReadAtOnce(t *testing.T) {
	for _, r := range []api.Row{
		by(7, 3), by(7, 3, 1, 2, 3, 4), by(7, 3, ofBits(minusNo), nan(), math.Inf(-1)), over(1, 1, by(7, 3, 5)), over(2, 2, by(7, 3, 5)),
		over(3, 1, by(7, 3)), over(1, 2, by(7, 3)), over(65535, most, by(7, 3)),
	} {
		b := one([]api.Row{by(9, 1), r, by(9, 5)}, update(1, by(1, 3, -1)), insert(2))
		for _, v := range []api.View{seeing(8), seeing(8, 1, 6), {Self: 7}, {Self: 7, Next: 7}, {Self: 7, Next: 8}, {Self: 7, Next: 9, Active: []int{6, 8}}, seeing(most)} {
			wantRead(t, b, v, 3, found(r))
		}
	}
	for _, v := range []api.View{{}, seeing(5), {Self: 9, Next: 1}} {
		wantRead(t, one([]api.Row{over(1, 1, by(0, 3, 4))}, insert(1)), v, 3, found(over(1, 1, by(0, 3, 4))))
	}
	wantRead(t, one([]api.Row{by(most, 3, 4)}), api.View{Self: most}, 3, found(by(most, 3, 4)))
}

// Vs1: who is at Next, beyond it or one of Active is not seen, and is newer.
func TestReadOfOneBehind(t *testing.T) {
	was := by(2, 3, -1, ofBits(minusNo))
	for _, writer := range []int{5, 6, 7, 9, 100, most} {
		b := one([]api.Row{by(1, 1), over(6, 40, by(writer, 3, 7))}, update(8, by(1, 1)))
		b.Cells[5] = update(40, was)
		wantRead(t, b, seeing(5), 3, found(was, writer))
		wantRead(t, b, api.View{Self: 4, Next: 5}, 3, found(was, writer))
		wantRead(t, b, api.View{Self: writer, Next: 5}, 3, found(over(6, 40, by(writer, 3, 7))))
		if writer < most {
			wantRead(t, b, seeing(writer+1, writer), 3, found(was, writer))
			wantRead(t, b, seeing(writer+1), 3, found(over(6, 40, by(writer, 3, 7))))
		}
	}
}

// layers is a base of a row of the key 3 as 9 wrote it, and 8, 7, 6 and 5, one over the other, at the bottom of which is an undoing of the number 1; the cells are not in order.
func layers(bottom api.Undo) api.Base {
	b := base(cells(12), leaf(), leaf(by(0, 1), over(9, 5, by(9, 3, 90))))
	b.Cells[8] = on(1, update(5, over(2, 4, by(8, 3, 80))))
	b.Cells[1] = on(1, update(4, over(12, 3, by(7, 3, 70))))
	b.Cells[11] = on(1, update(3, over(5, 2, by(6, 3, 60))))
	b.Cells[4] = on(1, update(2, over(1, 1, by(5, 3, 50))))
	b.Cells[0] = bottom
	return b
}

// Vs1: behind one, two and more undoings; those that were passed, in that order.
func TestReadOfManyBehind(t *testing.T) {
	b := layers(insert(1))
	for _, v := range []api.View{seeing(10), {Self: 9, Next: 5}} {
		wantRead(t, b, v, 3, found(over(9, 5, by(9, 3, 90))))
	}
	for _, v := range []api.View{seeing(9), seeing(10, 9), {Self: 8, Next: 5}} {
		wantRead(t, b, v, 3, found(over(2, 4, by(8, 3, 80)), 9))
	}
	for _, v := range []api.View{seeing(8), seeing(10, 8, 9), {Self: 7}} {
		wantRead(t, b, v, 3, found(over(12, 3, by(7, 3, 70)), 9, 8))
	}
	for _, v := range []api.View{seeing(7), seeing(10, 7, 8, 9), {Self: 6, Next: 6}} {
		wantRead(t, b, v, 3, found(over(5, 2, by(6, 3, 60)), 9, 8, 7))
	}
	wantRead(t, b, seeing(6), 3, found(over(1, 1, by(5, 3, 50)), 9, 8, 7, 6))
	wantRead(t, b, seeing(10, 6, 7, 8, 9), 3, found(over(1, 1, by(5, 3, 50)), 9, 8, 7, 6))
	wantRead(t, b, seeing(5), 3, none(9, 8, 7, 6, 5))
	wantRead(t, b, seeing(10, 5, 6, 7, 8, 9), 3, none(9, 8, 7, 6, 5))
	wantRead(t, b, api.View{}, 3, none(9, 8, 7, 6, 5))
	// A younger one that is not seen hides no elder one that is.
	wantRead(t, b, seeing(10, 9), 3, found(over(2, 4, by(8, 3, 80)), 9))
	wantRead(t, b, seeing(9, 8), 3, found(over(12, 3, by(7, 3, 70)), 9, 8))
	wantRead(t, b, api.View{Self: 5, Next: 0}, 3, found(over(1, 1, by(5, 3, 50)), 9, 8, 7, 6))
	wantRead(t, b, seeing(5), 1, found(by(0, 1)))
}

// Vs1: what is at the bottom: nothing, a row of nobody, a row that is not seen and leads nowhere, and what is not the one that is meant.
func TestReadAtTheBottom(t *testing.T) {
	newer := []int{9, 8, 7, 6, 5}
	wantRead(t, layers(insert(1)), seeing(5), 3, none(newer...))
	wantRead(t, layers(update(1, api.Row{})), seeing(5), 3, found(api.Row{}, newer...))
	wantRead(t, layers(update(1, by(4, 3, 40))), seeing(5), 3, found(by(4, 3, 40), newer...))
	wantRead(t, layers(update(1, by(4, 3, 40))), seeing(4), 3, old(9, 8, 7, 6, 5, 4))
	wantRead(t, layers(update(1, deadBy(4, 3))), seeing(5), 3, none(newer...))
	wantRead(t, layers(update(1, deadBy(4, 3))), seeing(4), 3, old(9, 8, 7, 6, 5, 4))
	wantRead(t, layers(api.Undo{}), seeing(5), 3, old(newer...))
	wantRead(t, layers(insert(6)), seeing(5), 3, old(newer...))
	wantRead(t, layers(update(6, by(4, 3, 40))), seeing(5), 3, old(newer...))
	// What a view sees ahead of the bottom does not hang on it.
	for _, u := range []api.Undo{insert(1), {}, insert(6), update(1, by(99, 3))} {
		wantRead(t, layers(u), seeing(6), 3, found(over(1, 1, by(5, 3, 50)), 9, 8, 7, 6))
	}
}

// Vs1: a version that is Dead is no row, if it is the one that is seen; who passed it goes on.
func TestReadOfDead(t *testing.T) {
	b := one([]api.Row{over(1, 1, deadBy(9, 3))}, update(1, over(2, 2, by(7, 3, 70))), update(2, over(3, 3, deadBy(5, 3))), update(3, over(4, 4, by(4, 3, 40))), insert(4))
	wantRead(t, b, seeing(10), 3, none())
	wantRead(t, b, api.View{Self: 9, Next: 9}, 3, none())
	wantRead(t, b, seeing(9), 3, found(over(2, 2, by(7, 3, 70)), 9))
	wantRead(t, b, seeing(7), 3, none(9, 7))
	wantRead(t, b, api.View{Self: 5}, 3, none(9, 7))
	wantRead(t, b, seeing(5), 3, found(over(4, 4, by(4, 3, 40)), 9, 7, 5))
	wantRead(t, b, seeing(4), 3, none(9, 7, 5, 4))
	wantRead(t, one([]api.Row{deadBy(0, 3)}), api.View{}, 3, none())
	wantRead(t, one([]api.Row{deadBy(9, 3)}), api.View{}, 3, old(9))
}

// Vs1: a Roll whose cell is none, is empty, is beyond how many there are, or has another number: too old, and who was passed is told.
func TestReadOfNoElder(t *testing.T) {
	for _, n := range []int{6, 12, 378} {
		for _, at := range []api.Roll{roll(0, 0), roll(1, 1), roll(1, 0), roll(2, 0), roll(2, 1), roll(2, 3), roll(2, 2+1<<16), roll(3, 2), roll(n, 2), roll(n+1, 2), roll(n+2, 2), roll(n+1, 0), roll(65535, 2), roll(65535, 0), roll(2, most)} {
			for _, u := range []api.Undo{insert(2), update(2, by(1, 3, 1))} {
				b := base(cells(n, api.Undo{}, u), leaf(over(at.Cell, at.No, by(9, 3, 90))))
				wantRead(t, b, seeing(5), 3, old(9))
				wantRead(t, b, seeing(10), 3, found(over(at.Cell, at.No, by(9, 3, 90))))
				b.Leaves[0].Slots[0] = text(over(4, 4, by(11, 3, 1)))
				b.Cells[3] = update(4, over(at.Cell, at.No, by(9, 3, 90)))
				wantRead(t, b, seeing(5), 3, old(11, 9))
				wantRead(t, b, seeing(10), 3, found(over(at.Cell, at.No, by(9, 3, 90)), 11))
			}
		}
	}
	b := base(cells(12), leaf(over(12, 2, by(9, 3, 90))))
	b.Cells[11] = insert(2)
	wantRead(t, b, seeing(5), 3, none(9))
	b.Cells[11] = update(2, by(1, 3, 1))
	wantRead(t, b, seeing(5), 3, found(by(1, 3, 1), 9))
	b.Cells = cells(6)
	wantRead(t, b, seeing(5), 3, old(9))
}

// Vs1: one who wrote several of the versions is told as often.
func TestReadTellsTwice(t *testing.T) {
	rows := []api.Row{over(1, 1, by(9, 3, 4))}
	b := one(rows, update(1, over(2, 2, by(9, 3, 3))), update(2, over(3, 3, by(7, 3, 2))), update(3, over(4, 4, by(9, 3, 1))), update(4, by(2, 3)))
	wantRead(t, b, seeing(5), 3, found(by(2, 3), 9, 9, 7, 9))
	wantRead(t, b, seeing(9), 3, found(over(3, 3, by(7, 3, 2)), 9, 9))
	wantRead(t, b, seeing(1), 3, old(9, 9, 7, 9, 2))
	wantScan(t, b, seeing(1), 3, 4, old(2, 7, 9))
	b.Cells[3] = insert(4)
	wantRead(t, b, seeing(5), 3, none(9, 9, 7, 9))
	wantScan(t, b, seeing(5), 3, 4, none(7, 9))
	b.Cells[3] = api.Undo{}
	wantRead(t, b, seeing(5), 3, old(9, 9, 7, 9))
}

// Vs1: whose the undoing is, where it says that the row is, and which one is ahead of it is not asked; nor is an elder row's key.
func TestReadOfStrangeUndoings(t *testing.T) {
	odd := api.Undo{Kind: 2, Tx: 3, No: 5, Prev: 77, Page: 1, Slot: 255, Row: over(2, 9, by(4, 8, 1))}
	b := base(cells(6, odd, api.Undo{Kind: 1, Tx: 1, No: 9, Page: 1, Slot: 8}), leaf(over(1, 5, by(9, 3, 2)), by(2, 8, 5)), leaf())
	wantRead(t, b, seeing(9), 3, found(over(2, 9, by(4, 8, 1)), 9))
	wantRead(t, b, seeing(4), 3, none(9, 4))
	wantRead(t, b, seeing(9), 8, found(by(2, 8, 5)))
	wantRead(t, b, seeing(1), 8, old(2))
	// Two rows may lead to the same undoing.
	b.Leaves[1] = leaf(over(1, 5, by(11, 7, 2)))
	wantRead(t, b, seeing(9), 7, found(over(2, 9, by(4, 8, 1)), 11))
}

// ring is so many cells, each over the next, the last one over the first; the n-th is number n + 10, of the writer n + 100.
func ring(n int) []api.Undo {
	l := []api.Undo{}
	for i := 1; i <= n; i++ {
		l = append(l, update(i+10, over(i%n+1, i%n+11, by(i+100, float64(i), float64(-i)))))
	}
	return l
}

// around is who is passed in a ring, from its first cell on, behind those.
func around(n int, ahead ...int) []int {
	l := ahead
	for i := 0; len(l) < atMost; i++ {
		l = append(l, i%n+101)
	}
	return l
}

// Vs1: undoings that lead back to themselves: 400 are passed, what is beyond is too old.
func TestReadAround(t *testing.T) {
	for _, n := range []int{1, 2, 3, 4, 5, 6, 7, 100, 199, 200, 201, 377, 378} {
		r := over(1, 11, by(90, 3, 3))
		b := base(cells((n+5)/6*6, ring(n)...), leaf(by(0, 1), r))
		wantRead(t, b, seeing(90), 3, old(around(n, 90)...))
		wantRead(t, b, api.View{}, 3, old(around(n, 90)...))
		wantScan(t, b, seeing(90), 0, 9, old(slowRising(around(n, 90))...))
		wantRead(t, b, seeing(90), 1, found(by(0, 1)))
		// One of the ring is seen: it is come to once around.
		for _, at := range []int{1, 2, n / 2, n - 1, n} {
			if at >= 1 && at <= n {
				wantRead(t, b, api.View{Self: at + 100}, 3, found(b.Cells[at-1].Row, around(n, 90)[:at]...))
			}
		}
	}
}

// Vs1: a ring behind some that are in no ring: those are passed once.
func TestReadIntoARing(t *testing.T) {
	for ahead := 1; ahead < 300; ahead += 23 {
		b := base(cells(378), leaf(over(ahead, ahead, by(9999, 0, 5))))
		copy(b.Cells, chain(ahead, update(1, over(371, 1000, by(501, 0)))))
		b.Cells[370] = update(1000, over(372, 1001, by(1801, 0)))
		b.Cells[371] = update(1001, over(371, 1000, by(1802, 0)))
		writers := []int{9999}
		for i := range ahead {
			writers = append(writers, 500+ahead-i)
		}
		for i := 0; len(writers) < atMost; i++ {
			writers = append(writers, 1801+i%2)
		}
		wantRead(t, b, seeing(300), 0, old(writers...))
		wantRead(t, b, api.View{Self: 1802}, 0, found(b.Cells[371].Row, writers[:ahead+2]...))
	}
}

// Vs1: as many as there can be without a ring are passed.
func TestReadOfAll(t *testing.T) {
	b := full()
	writers := []int{1000}
	for i := 378; i > 1; i-- {
		writers = append(writers, 500+i)
	}
	wantRead(t, b, seeing(500), 0, found(by(1, 0, 1), writers...))
	wantRead(t, b, seeing(1), 0, old(append(slices.Clone(writers), 1)...))
	wantRead(t, b, seeing(503), 0, found(over(1, 1, by(502, 0, 2)), writers[:377]...))
	wantRead(t, b, seeing(1001), 0, found(over(378, 378, by(1000, 0, 5))))
	b.Cells[0] = on(3, insert(1))
	wantRead(t, b, seeing(500), 0, none(writers...))
	b.Cells[0] = update(1, deadBy(1, 0))
	wantRead(t, b, seeing(500), 0, none(writers...))
	wantScan(t, b, seeing(500), 0, 1, none(slowRising(writers)...))
	b.Cells[0] = api.Undo{}
	wantRead(t, b, seeing(500), 0, old(writers...))
	b.Cells[0] = update(1, over(378, 378, by(1, 0)))
	writers = append(writers, 1)
	for i := 378; len(writers) < atMost; i-- {
		writers = append(writers, 500+i)
	}
	wantRead(t, b, seeing(1), 0, old(writers...))
}

// Vs1, Vs2: the example of the chapter: a row that one wrote whom the view does not see, over nothing: none, and that one is newer.
func TestExample(t *testing.T) {
	b := one([]api.Row{over(1, 1, by(9, 3, 2))}, insert(1))
	wantRead(t, b, api.View{Self: 5, Next: 6}, 3, none(9))
	wantScan(t, b, api.View{Self: 5, Next: 6}, 0, 9, none(9))
	wantRead(t, b, api.View{Self: 9, Next: 10}, 3, found(over(1, 1, by(9, 3, 2))))
	wantScan(t, b, api.View{Self: 9, Next: 10}, 0, 9, found(over(1, 1, by(9, 3, 2))))
}

// rows is what is told of rows that are seen.
func rows(newer []int, l ...api.Row) told { return told{l, newer, api.OK} }

// many is a base of rows of the keys -5, -1, 0, 2, 3, 6, above all and no number, not in that order, on several leaves.
func many() api.Base {
	b := base(cells(12),
		leaf(by(1, 3, 30), over(5, 5, by(9, -1, 9)), by(2, nan())),
		leaf(),
		leaf(over(1, 1, by(8, 6, 60)), by(0, math.Inf(1))),
		leaf(by(3, 0, 4), over(2, 2, deadBy(9, -5)), over(3, 3, by(7, 2, 20))))
	b.Cells[0] = update(1, over(4, 4, by(7, 6, -60)))
	b.Cells[1] = on(3, update(2, by(4, -5, 50)))
	b.Cells[2] = on(3, update(3, deadBy(3, 2)))
	b.Cells[3] = on(3, update(4, by(2, 6, -61)))
	b.Cells[4] = insert(5)
	return b
}

// Vs2: all of a range, by rising key, whatever leaf and slot they have.
func TestScan(t *testing.T) {
	b := many()
	three, null, above := by(1, 3, 30), by(3, 0, 4), by(0, math.Inf(1))
	six, two, minus := over(1, 1, by(8, 6, 60)), over(3, 3, by(7, 2, 20)), over(5, 5, by(9, -1, 9))
	was6, wasFirst, five := over(4, 4, by(7, 6, -60)), by(2, 6, -61), by(4, -5, 50)
	lowest := math.Inf(-1)
	wantScan(t, b, seeing(10), lowest, nan(), rows(nil, minus, null, two, three, six, above))
	wantScan(t, b, seeing(9), lowest, nan(), rows([]int{9}, five, null, two, three, six, above))
	wantScan(t, b, seeing(8), lowest, nan(), rows([]int{8, 9}, five, null, two, three, was6, above))
	wantScan(t, b, seeing(7), lowest, nan(), rows([]int{7, 8, 9}, five, null, three, wasFirst, above))
	wantScan(t, b, seeing(4), lowest, nan(), told{nil, []int{4, 7, 8, 9}, api.ErrOld})
	wantScan(t, b, seeing(4), -1, nan(), rows([]int{7, 8, 9}, null, three, wasFirst, above))
	wantScan(t, b, api.View{Self: 9, Next: 8}, lowest, nan(), rows([]int{8}, minus, null, two, three, was6, above))
	wantScan(t, b, seeing(10, 7, 8), lowest, nan(), rows([]int{7, 8}, minus, null, three, wasFirst, above))
	wantScan(t, b, seeing(8), 0, 6, rows(nil, null, two, three))
	wantScan(t, b, seeing(8), 0.5, 6.5, rows([]int{8}, two, three, was6))
	wantScan(t, b, seeing(8), 2, 3, rows(nil, two))
	wantScan(t, b, seeing(8), ofBits(minusNo), 2, rows(nil, null))
	wantScan(t, b, seeing(8), -1, ofBits(minusNo), rows([]int{9}))
	wantScan(t, b, seeing(8), lowest, math.Inf(1), rows([]int{8, 9}, five, null, two, three, was6))
	wantScan(t, b, seeing(8), math.Inf(1), nan(), rows(nil, above))
}

// Vs2: ranges in which nothing can be, and bounds that are no numbers.
func TestScanOfNothing(t *testing.T) {
	for _, b := range []api.Base{many(), some(), full(), base(cells(6), blank(1)...)} {
		for _, v := range []api.View{{}, seeing(4), seeing(10)} {
			for _, x := range keys() {
				wantScan(t, b, v, x, x, none())
				wantScan(t, b, v, nan(), x, none())
				wantScan(t, b, v, math.NaN(), x, none())
			}
			wantScan(t, b, v, 3, 2, none())
			wantScan(t, b, v, math.Inf(1), math.Inf(-1), none())
			wantScan(t, b, v, 0, ofBits(minusNo), none())
			wantScan(t, b, v, 3.25, 3.75, none())
			wantScan(t, b, v, 1000, math.Inf(1), none())
		}
	}
	wantScan(t, base(cells(6), blank(62)...), seeing(9), math.Inf(-1), nan(), none())
	// All that are no numbers are one bound, behind the row above all.
	for _, bits := range []uint64{theNaN, theNaN + 1, 0xFFF8000000000000, 1<<64 - 1} {
		wantScan(t, many(), seeing(8), 4, ofBits(bits), rows([]int{8}, over(4, 4, by(7, 6, -60)), by(0, math.Inf(1))))
	}
}

// Vs2: of one key: what Read tells of it, but whom it passed twice is told once, and rising.
func TestScanOfOneKey(t *testing.T) {
	b := layers(insert(1))
	for next := range 11 {
		want := slowRead(b, seeing(next), 3)
		want.newer = slowRising(want.newer)
		wantScan(t, b, seeing(next), 3, math.Nextafter(3, 4), want)
		wantScan(t, b, seeing(next), 2, 4, want)
	}
	wantScan(t, b, seeing(7), 3, 4, rows([]int{7, 8, 9}, over(5, 2, by(6, 3, 60))))
	wantScan(t, b, seeing(5), 3, 4, none(5, 6, 7, 8, 9))
	wantScan(t, b, seeing(5), 1, 2, rows(nil, by(0, 1)))
	wantScan(t, b, seeing(5), 1, 4, rows([]int{5, 6, 7, 8, 9}, by(0, 1)))
}

// Vs2: the order is that of the keys of the rows that stand, not of what their elder versions bear.
func TestScanOfOtherKeys(t *testing.T) {
	stand := []api.Row{over(1, 1, by(9, 2)), over(2, 2, by(9, 1)), over(3, 3, by(9, 4)), by(1, 3)}
	b := one(stand, update(1, by(2, -7, 1)), update(2, by(2, 50, 2)), update(3, by(2, nan(), 3)))
	wantScan(t, b, seeing(9), math.Inf(-1), nan(), rows([]int{9}, by(2, 50, 2), by(2, -7, 1), by(1, 3), by(2, nan(), 3)))
	wantScan(t, b, seeing(10), math.Inf(-1), nan(), rows(nil, stand[1], stand[0], stand[3], stand[2]))
	wantScan(t, b, seeing(9), 1, 3, rows([]int{9}, by(2, 50, 2), by(2, -7, 1)))
	wantScan(t, b, seeing(9), -8, 1, none())
	wantScan(t, b, seeing(9), 40, 60, none())
	// Elder versions may be of one key, and of that of another row.
	b.Cells[1], b.Cells[2] = update(2, by(2, 3, 2)), update(3, by(2, 3, 3))
	wantScan(t, b, seeing(9), 0, 9, rows([]int{9}, by(2, 3, 2), by(2, -7, 1), by(1, 3), by(2, 3, 3)))
}

// Vs2: rows whose version is Dead are left out, whoever sees them at once or behind others.
func TestScanOfDead(t *testing.T) {
	b := one([]api.Row{deadBy(2, 1), by(2, 2), over(1, 1, by(9, 3)), over(2, 2, deadBy(8, 4)), deadBy(0, 5)}, update(1, deadBy(3, 3)), update(2, by(3, 4, 40)))
	wantScan(t, b, seeing(10), 0, 9, rows(nil, by(2, 2), over(1, 1, by(9, 3))))
	wantScan(t, b, seeing(9), 0, 9, rows([]int{9}, by(2, 2)))
	wantScan(t, b, seeing(8), 0, 9, rows([]int{8, 9}, by(2, 2), by(3, 4, 40)))
	wantScan(t, b, seeing(8), 3, 4, none(9))
	wantScan(t, b, seeing(8), 5, 9, none())
	wantScan(t, b, seeing(8), 0, 2, none())
}

// Vs2: those that are newer are told rising, each once, over all rows.
func TestScanTellsNewerOnce(t *testing.T) {
	b := one([]api.Row{over(1, 1, by(20, 1)), over(2, 2, by(9, 2)), over(3, 3, by(30, 3)), over(4, 4, by(20, 4)), over(5, 5, by(9, 5))},
		update(1, over(6, 6, by(9, 1))), insert(2), update(3, by(7, 3)), update(4, over(2, 2, by(15, 4))), update(5, by(1, 5)), update(6, by(3, 1)))
	wantScan(t, b, seeing(9), 0, 9, rows([]int{9, 15, 20, 30}, by(3, 1), by(7, 3), by(1, 5)))
	wantScan(t, b, seeing(9), 4, 5, none(15, 20))
	wantScan(t, b, seeing(9), 3, 4, rows([]int{30}, by(7, 3)))
	wantScan(t, b, seeing(7), 0, 9, old(7, 9, 15, 20, 30))
	wantScan(t, b, seeing(1), 0, 2, old(3, 9, 20))
	// The least ones are told of the last row.
	b = one([]api.Row{by(most, 1), by(300, 2), by(65536, 3), by(2, 4), by(1, 5)})
	wantScan(t, b, api.View{}, 0, 9, old(1, 2, 300, 65536, most))
	wantScan(t, b, seeing(3), 0, 9, old(300, 65536, most))
}

// Vs2: one row that is too old, at each place among others that are not: no rows at all, and those that are newer of all rows.
func TestScanOfOneTooOld(t *testing.T) {
	for at := range 5 {
		stand := []api.Row{by(1, 0), over(1, 1, by(8, 1)), deadBy(2, 2), over(2, 2, by(9, 3)), by(0, 4)}
		stand[at] = over(3, 3, by(7, float64(at)))
		b := one(stand, update(1, by(2, 1)), insert(2))
		newer := []int{7}
		if at != 1 {
			newer = append(newer, 8)
		}
		if at != 3 {
			newer = append(newer, 9)
		}
		wantScan(t, b, seeing(7), 0, 5, old(newer...))
		wantScan(t, b, seeing(7), float64(at), float64(at)+1, old(7))
		if e := scan(b, seeing(7), 0, float64(at)).e; e != api.OK {
			t.Errorf("%d: the one that is too old is not in the range: error %d", at, e)
		}
		if e := scan(b, seeing(7), float64(at)+1, 9).e; e != api.OK {
			t.Errorf("%d: the one that is too old is not in the range: error %d", at, e)
		}
		b.Cells[2] = update(3, by(3, float64(at), 1))
		if got := scan(b, seeing(7), 0, 5); got.e != api.OK || len(got.rows) < 3 {
			t.Errorf("%d: with its undoing: %v", at, got)
		}
	}
	b := one([]api.Row{by(7, 1), over(1, 1, by(8, 2)), over(1, 2, by(9, 3))}, insert(1))
	wantScan(t, b, seeing(7), 0, 9, old(7, 8, 9))
	wantScan(t, b, seeing(7), 2, 3, none(8))
}

// Vs2: a base as great as can be.
func TestScanOfAll(t *testing.T) {
	b := full()
	want := []api.Row{over(378, 378, by(1000, 0, 5))}
	for i := 1; i < 62*9; i++ {
		want = append(want, by(i%7, float64(i), float64(-i)))
	}
	wantScan(t, b, seeing(1001), math.Inf(-1), nan(), rows(nil, want...))
	writers := []int{}
	for i := 2; i <= 378; i++ {
		writers = append(writers, 500+i)
	}
	want[0] = by(1, 0, 1)
	wantScan(t, b, seeing(500), 0, 558, rows(append(writers, 1000), want...))
	wantScan(t, b, seeing(500), 1, 558, rows(nil, want[1:]...))
	wantScan(t, b, seeing(5), 1, 558, old(5, 6))
	wantScan(t, b, seeing(5), 7, 12, rows(nil, want[7:12]...))
}

// wantAll holds Scan against Read of each key in the range, and both against the words.
func wantAll(t *testing.T, b api.Base, v api.View, lo, hi float64) told {
	t.Helper()
	all := slowScan(b, v, lo, hi)
	wantScan(t, b, v, lo, hi, all)
	stand, _ := slowStand(b.Leaves)
	each := told{}
	for _, r := range stand {
		if !slowAhead(r.Key, lo) && slowAhead(r.Key, hi) {
			x := slowRead(b, v, r.Key)
			wantRead(t, b, v, r.Key, x)
			each.rows = append(each.rows, x.rows...)
			each.newer = append(each.newer, x.newer...)
			each.e = max(each.e, x.e)
		}
	}
	if each.e != api.OK {
		each.rows = nil
	}
	each.newer = slowRising(each.newer)
	if !same(all, each) {
		t.Fatalf("Scan(%s, %v, %v, %v) is %v, Read of each key %v", brief(b), v, lo, hi, all, each)
	}
	return all
}

// Vs3: Scan is Read of each key of the range, of the samples.
func TestScanIsReadOfEach(t *testing.T) {
	views := []api.View{{}, seeing(1), seeing(4), seeing(6, 2), seeing(8), seeing(8, 3, 7), seeing(10), {Self: 9, Next: 3}, {Self: 2, Next: 7, Active: []int{1, 5}}, seeing(most)}
	for _, s := range append(goodBases(), sample{"many", many()}, sample{"layers", layers(insert(1))}, sample{"old layers", layers(api.Undo{})}) {
		if s.name == "all that can be" {
			continue // it has a test of its own
		}
		t.Run(s.name, func(t *testing.T) {
			for _, v := range views {
				for _, lo := range []float64{math.Inf(-1), -1, ofBits(minusNo), 1, 3, 7.5} {
					for _, hi := range []float64{0, 1, 3, 8, 9, math.Inf(1), nan()} {
						wantAll(t, s.b, v, lo, hi)
					}
				}
			}
		})
	}
}

// versions are those that a row of that key may have in the small bases.
func versions(key float64) []api.Row {
	l := []api.Row{}
	for _, r := range []api.Row{by(0, key, 1), by(1, key, 2), by(2, key, 3), deadBy(1, key), deadBy(2, key), by(3, key)} {
		for _, at := range []api.Roll{roll(0, 0), roll(1, 1), roll(1, 2), roll(2, 2), roll(7, 2)} {
			l = append(l, over(at.Cell, at.No, r))
		}
	}
	return l
}

// Vs1, Vs2, Vs3: all bases of one row and of two undoings of few sorts, by several views.
func TestSmallBases(t *testing.T) {
	undoings := func(no int) []api.Undo {
		l := []api.Undo{{}, insert(no)}
		for _, r := range versions(5) {
			if r.Roll.Cell != 7 && r.Roll != roll(1, 2) {
				l = append(l, update(no, r))
			}
		}
		return l
	}
	views := []api.View{{Self: 0, Next: 1}, {Self: 2, Next: 2}, {Self: 0, Next: 3, Active: []int{1}}}
	told := map[string]int{}
	for _, r := range versions(4) {
		for _, a := range undoings(1) {
			for _, c := range undoings(2) {
				b := one([]api.Row{r}, a, c)
				for _, v := range views {
					x := wantAll(t, b, v, 4, 5)
					told[fmt.Sprint(x.e, len(x.rows), len(x.newer))]++
				}
			}
		}
	}
	for _, what := range []string{"0 1 0", "0 0 0", "0 1 1", "0 1 2", "0 0 1", "0 0 2", "13 0 1", "13 0 2"} {
		if told[what] < 50 {
			t.Errorf("%s: too few to tell: %v", what, told)
		}
	}
}

// strewnRow is a row of that key whose Roll leads somewhere among so many cells, mostly to one that is there.
func strewnRow(r *rand.Rand, key float64, n int) api.Row {
	x := by(r.IntN(9), key, []float64{r.Float64(), ofBits(minusNo), nan()}[:r.IntN(4)]...)
	if r.IntN(5) == 0 {
		x = deadBy(x.Writer, key)
	}
	switch r.IntN(8) {
	case 0:
		return x
	case 1:
		return over(1+r.IntN(n+3), 1+r.IntN(40), x)
	}
	cell := 1 + r.IntN(n)
	return over(cell, 100+cell, x)
}

// strewn is a base of rows and undoings of few writers, the number of most cells being 100 more than the cell's.
func strewn(r *rand.Rand) api.Base {
	n := 6 * (1 + r.IntN(3))
	b := base(cells(n), blank(1+r.IntN(4))...)
	for i := range b.Cells {
		page := r.IntN(len(b.Leaves))
		switch r.IntN(8) {
		case 0:
		case 1:
			b.Cells[i] = on(page, insert(101+i))
		default:
			b.Cells[i] = on(page, update(101+i, strewnRow(r, float64(r.IntN(30)), n)))
		}
	}
	for i, key := range r.Perm(30)[:r.IntN(13)] {
		x := strewnRow(r, float64(key), n)
		if i == 0 && key < 5 {
			x.Key = nan()
		}
		at := r.IntN(len(b.Leaves))
		if len(b.Leaves[at].Slots) < 9 {
			b.Leaves[at].Slots = append(b.Leaves[at].Slots, text(x))
		}
	}
	return b
}

// strewnView is a view of a few of nine.
func strewnView(r *rand.Rand) api.View {
	v := api.View{Self: r.IntN(12), Next: r.IntN(9) + r.IntN(3)}
	for a := 1; a < v.Next; a++ {
		if a != v.Self && r.IntN(5) == 0 {
			v.Active = append(v.Active, a)
		}
	}
	return v
}

// Vs1, Vs2, Vs3: strewn bases, views and ranges are held against the chapter's words.
func TestStrewn(t *testing.T) {
	r := rand.New(rand.NewPCG(17, 1))
	told := map[string]int{}
	for range 8000 {
		b, v := strewn(r), strewnView(r)
		wantCheck(t, b, true)
		wantAll(t, b, v, math.Inf(-1), nan())
		lo := float64(r.IntN(30))
		x := wantAll(t, b, v, lo, lo+float64(r.IntN(20)-1))
		told[fmt.Sprint(x.e, min(len(x.rows), 3), min(len(x.newer), 3))]++
		key := float64(r.IntN(30))
		if stand, _ := slowStand(b.Leaves); len(stand) > 0 && r.IntN(4) > 0 {
			key = stand[r.IntN(len(stand))].Key
		}
		y := slowRead(b, v, key)
		wantRead(t, b, v, key, y)
		told[fmt.Sprint("read ", y.e, len(y.rows), min(len(y.newer), 3))]++
	}
	for _, what := range []string{"0 0 0", "0 0 1", "0 1 0", "0 1 1", "0 1 2", "0 2 1", "0 2 2", "0 3 3", "13 0 1", "13 0 2", "13 0 3", "read 0 0 0", "read 0 0 1", "read 0 1 0", "read 0 1 1", "read 0 1 2", "read 13 0 1", "read 13 0 3"} {
		if told[what] < 30 {
			t.Errorf("%s: too few to tell: %v", what, told)
		}
	}
}

// Vs1, Vs2: strewn bases and views of which one thing was turned.
func TestStrewnWrong(t *testing.T) {
	r := rand.New(rand.NewPCG(17, 2))
	turns := []func(b *api.Base, v *api.View){
		func(b *api.Base, v *api.View) {},
		func(b *api.Base, v *api.View) { b.Table.NextNo = r.IntN(3) - 1 },
		func(b *api.Base, v *api.View) { b.Cells[r.IntN(len(b.Cells))].Page = r.IntN(6) },
		func(b *api.Base, v *api.View) { b.Cells[r.IntN(len(b.Cells))].No = 101 + r.IntN(6) },
		func(b *api.Base, v *api.View) { b.Leaves, b.Cells = b.Leaves[1:], b.Cells[:6] },
		func(b *api.Base, v *api.View) { b.Leaves = append(b.Leaves, leaf(by(1, float64(r.IntN(30))))) },
		func(b *api.Base, v *api.View) { v.Self = r.IntN(5) - 1 },
		func(b *api.Base, v *api.View) { v.Active = append(v.Active, r.IntN(12)) },
	}
	told := map[string]int{}
	for range 8000 {
		b, v := strewn(r), strewnView(r)
		which := r.IntN(len(turns))
		turns[which](&b, &v)
		wantCheck(t, b, slowCheck(b))
		key := float64(r.IntN(30))
		wantRead(t, b, v, key, slowRead(b, v, key))
		x := slowScan(b, v, key, 30)
		wantScan(t, b, v, key, 30, x)
		told[fmt.Sprint(which, x.e == api.ErrArg)]++
	}
	for _, what := range []string{"0 false", "1 true", "1 false", "2 true", "2 false", "3 true", "3 false", "4 true", "4 false", "5 true", "5 false", "6 true", "6 false", "7 true", "7 false"} {
		if told[what] < 50 {
			t.Errorf("%s: too few to tell: %v", what, told)
		}
	}
}

// spoil writes over all lists of a base, their spare room too.
func spoil(b api.Base) {
	for _, x := range b.Leaves {
		for _, s := range x.Slots {
			junk(s, 0xEE)
		}
		junk(x.Slots, []byte("spoilt"))
		junk(x.Itl, -7)
	}
	for _, u := range b.Cells {
		junk(u.Row.Cols, -7)
	}
	junk(b.Leaves, api.Leaf{Itl: []int{-7}})
	junk(b.Cells, api.Undo{No: -7})
	junk(b.Table.Entries, api.Entry{Tx: -7})
}

func junk[T any](l []T, x T) {
	l = l[:cap(l)]
	for i := range l {
		l[i] = x
	}
}

// roomy is a list with something behind its end.
func roomy[T any](l []T, x T) []T { return append(slices.Clone(l), x, x, x)[:len(l)] }

// roomyBase is a base whose lists all have something behind their ends.
func roomyBase(b api.Base) api.Base {
	b = clone(b)
	for i, x := range b.Leaves {
		for j, s := range x.Slots {
			x.Slots[j] = roomy(s, 0xDD)
		}
		b.Leaves[i] = api.Leaf{Itl: roomy(x.Itl, 33), Slots: roomy(x.Slots, []byte("behind"))}
	}
	for i, u := range b.Cells {
		b.Cells[i].Row.Cols = roomy(u.Row.Cols, 33)
	}
	b.Leaves, b.Cells, b.Table.Entries = roomy(b.Leaves, leaf(by(1, 33))), roomy(b.Cells, insert(33)), roomy(b.Table.Entries, api.Entry{Tx: 33})
	return b
}

// whole is a base whose lists go on to the end of their room.
func whole(b api.Base) api.Base {
	b.Leaves, b.Cells, b.Table.Entries = slices.Clone(b.Leaves[:cap(b.Leaves)]), slices.Clone(b.Cells[:cap(b.Cells)]), slices.Clone(b.Table.Entries[:cap(b.Table.Entries)])
	for i, x := range b.Leaves {
		y := api.Leaf{Itl: slices.Clone(x.Itl[:cap(x.Itl)])}
		for _, s := range x.Slots[:cap(x.Slots)] {
			y.Slots = append(y.Slots, bytes.Clone(s[:cap(s)]))
		}
		b.Leaves[i] = y
	}
	for i, u := range b.Cells {
		b.Cells[i].Row.Cols = slices.Clone(u.Row.Cols[:cap(u.Row.Cols)])
	}
	return b
}

func spoilTold(x told) {
	for _, r := range x.rows {
		junk(r.Cols, -9)
	}
	junk(x.rows, api.Row{Key: -9})
	junk(x.newer, -9)
}

// keep is what was told, in memory of its own.
func keep(x told) told {
	k := told{nil, slices.Clone(x.newer), x.e}
	for _, r := range x.rows {
		r.Cols = slices.Clone(r.Cols)
		k.rows = append(k.rows, r)
	}
	return k
}

// asked are calls of each kind, by their numbers; the last one is beyond.
func asked(t *testing.T, b api.Base, v api.View, n int) (told, bool) {
	t.Helper()
	l := []float64{-5, 0, 3, 6, 8, nan(), 5.5}
	switch {
	case n < len(l):
		return read(t, b, v, l[n]), true
	case n == len(l):
		return scan(b, v, math.Inf(-1), nan()), true
	case n == len(l)+1:
		return scan(b, v, 0, 8), true
	case n == len(l)+2:
		return told{e: Check(b)}, true
	}
	return told{}, false
}

// memories are bases of which what is told is made of many lists; two of their undoings may share theirs.
func memories() []sample {
	shared := []float64{1, 2, 3}
	b := one([]api.Row{over(1, 1, by(9, 3, 5)), over(2, 2, by(9, 6, 6)), over(1, 1, by(8, 0, 8))}, update(1, by(2, 3, shared...)), update(2, by(2, 6, shared...)))
	b.Cells[0].Row.Cols, b.Cells[1].Row.Cols = shared, shared[:2]
	return append(goodBases(), sample{"many", many()}, sample{"layers", layers(insert(1))}, sample{"shared", b}, sample{"bad", badBases()[len(badBases())-1].b})
}

// R3: what is handed in is left, with what lies behind its ends; what is told shares no memory with it, nor with another answer, nor do its lists with each other.
func TestMemory(t *testing.T) {
	views := []api.View{{}, seeing(4), {Self: 9, Next: 8, Active: []int{2, 7}}, seeing(10), seeing(10, 10)}
	for _, s := range memories() {
		for _, v := range views {
			for n := 0; ; n++ {
				b, w := roomyBase(s.b), v
				w.Active = roomy(v.Active, 33)
				before, active := whole(b), slices.Clone(w.Active[:cap(w.Active)])
				one, more := asked(t, b, w, n)
				if !more {
					break
				}
				two, _ := asked(t, b, w, n)
				kept := keep(one)
				spoilTold(one)
				if !baseAlike(whole(b), before) || !slices.Equal(w.Active[:cap(w.Active)], active) {
					t.Fatalf("%s, %v, call %d: what was handed in is another one", s.name, v, n)
				}
				if !same(two, kept) {
					t.Fatalf("%s, %v, call %d: two answers share memory: %v, not %v", s.name, v, n, two, kept)
				}
				spoil(b)
				junk(w.Active, -7)
				if !same(two, kept) {
					t.Fatalf("%s, %v, call %d: what is told hangs on what was handed in: %v, not %v", s.name, v, n, two, kept)
				}
			}
		}
	}
}

// R3: each row of one answer has its own columns, the spare room too; those that are newer have theirs.
func TestListsApart(t *testing.T) {
	b := memories()[len(memories())-2].b
	for _, v := range []api.View{seeing(4), seeing(9), seeing(10)} {
		for i := range 4 {
			got := scan(b, v, math.Inf(-1), nan())
			kept := keep(got)
			if i < len(got.rows) {
				junk(got.rows[i].Cols, -9)
				got.rows[i], kept.rows[i] = api.Row{}, api.Row{}
			} else {
				junk(got.newer, -9)
				got.newer, kept.newer = nil, nil
			}
			if !same(got, kept) {
				t.Fatalf("%v: the lists of one answer share memory: %v, not %v", v, got, kept)
			}
		}
	}
}

// R4: asked again, in another order, behind errors too, the same is told.
func TestAgain(t *testing.T) {
	samples := append(memories(), badBases()[:20]...)
	tell := func(s sample) string {
		told := ""
		for _, v := range []api.View{seeing(4), seeing(8, 2), seeing(10), {Self: -1}} {
			for n := 0; ; n++ {
				x, more := asked(t, s.b, v, n)
				if !more {
					break
				}
				told += fmt.Sprintln(x)
			}
		}
		return told
	}
	firsts := []string{}
	for _, s := range samples {
		firsts = append(firsts, tell(s))
	}
	for i := len(samples) - 1; i >= 0; i-- {
		if again := tell(samples[i]); again != firsts[i] {
			t.Errorf("%s: %s, then %s", samples[i].name, firsts[i], again)
		}
	}
}

// R1, R4: nil lists and empty ones are the same everywhere.
func TestOfNil(t *testing.T) {
	a, b := one([]api.Row{over(1, 1, by(9, 3))}, update(1, by(2, 3))), one([]api.Row{over(1, 1, by(9, 3))}, update(1, by(2, 3)))
	a.Cells[0].Row.Cols, b.Cells[0].Row.Cols = nil, []float64{}
	a.Leaves, b.Leaves = append(a.Leaves, api.Leaf{Itl: make([]int, 4)}), append(b.Leaves, api.Leaf{Itl: make([]int, 4), Slots: [][]byte{}})
	for _, x := range []api.Base{a, b} {
		for _, v := range []api.View{{Next: 5}, {Next: 5, Active: []int{}}} {
			wantCheck(t, x, true)
			wantRead(t, x, v, 3, found(by(2, 3), 9))
			wantScan(t, x, v, 0, 9, rows([]int{9}, by(2, 3)))
		}
	}
}
