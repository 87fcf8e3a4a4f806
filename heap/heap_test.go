package heap

import (
	"bytes"
	"encoding/binary"
	"fmt"
	"math"
	"math/rand/v2"
	"slices"
	"testing"

	"humus/api"
)

const (
	most    = 1<<31 - 1
	theNaN  = 0x7FF8000000000001
	minusNo = 1 << 63 // the bits of the 0 with a sign
)

func ofBits(b uint64) float64 { return math.Float64frombits(b) }

func bitsOf(l []float64) []uint64 {
	b := []uint64{}
	for _, x := range l {
		b = append(b, math.Float64bits(x))
	}
	return b
}

// of is a row of a key and columns, written by 1.
func of(key float64, cols ...float64) api.Row { return api.Row{Key: key, Cols: cols, Writer: 1} }

// by is a row that somebody wrote.
func by(r api.Row, writer int) api.Row {
	r.Writer = writer
	return r
}

// text is a row's bytes on a leaf, by the words of layer 4: whether it may be is not asked.
func text(r api.Row) []byte {
	b := []byte{0}
	if r.Dead {
		b[0] = 1
	}
	b = binary.BigEndian.AppendUint64(b, math.Float64bits(r.Key))
	b = binary.BigEndian.AppendUint32(b, uint32(r.Writer))
	b = binary.BigEndian.AppendUint16(b, uint16(r.Roll.Cell))
	b = binary.BigEndian.AppendUint32(b, uint32(r.Roll.No))
	b = append(b, byte(len(r.Cols)))
	for _, x := range r.Cols {
		b = binary.BigEndian.AppendUint64(b, math.Float64bits(x))
	}
	for len(b) < 52 {
		b = append(b, 0)
	}
	return b
}

// made is a leaf of these writers, and of these slots, of which nil are empty ones.
func made(itl []int, slots ...[]byte) api.Leaf {
	return api.Leaf{Itl: slices.Clone(itl), Slots: slots}
}

func nobody() []int { return []int{0, 0, 0, 0} }

// plain is a leaf of these rows, on which nobody writes.
func plain(rows ...api.Row) api.Leaf {
	x := api.Leaf{Itl: nobody()}
	for _, r := range rows {
		x.Slots = append(x.Slots, text(r))
	}
	return x
}

// run is a leaf of so many rows, of rising keys from one on, each with its own columns.
func run(from float64, n int) api.Leaf {
	x := api.Leaf{Itl: nobody()}
	for i := range n {
		key := from + float64(i)
		x.Slots = append(x.Slots, text(of(key, make([]float64, i%5)...)))
	}
	return x
}

// full is so many leaves of nine rows each, of the keys from 0 on.
func full(n int) []api.Leaf {
	l := []api.Leaf{}
	for i := range n {
		l = append(l, run(float64(9*i), 9))
	}
	return l
}

// blank is so many leaves without rows.
func blank(n int) []api.Leaf {
	l := []api.Leaf{}
	for range n {
		l = append(l, plain())
	}
	return l
}

// clone is leaves with nothing in common, their lists too.
func clone(l []api.Leaf) []api.Leaf {
	c := []api.Leaf{}
	for _, x := range l {
		y := api.Leaf{Itl: slices.Clone(x.Itl)}
		for _, s := range x.Slots {
			y.Slots = append(y.Slots, bytes.Clone(s))
		}
		c = append(c, y)
	}
	return c
}

// holed is leaves of which these berths are empty; not the last one of a leaf.
func holed(l []api.Leaf, at ...api.Berth) []api.Leaf {
	l = clone(l)
	for _, b := range at {
		l[b.Leaf].Slots[b.Slot] = nil
	}
	return l
}

func berth(n, slot int) api.Berth { return api.Berth{Leaf: n, Slot: slot} }

// replaced is leaves with other bytes in one slot, which is there, or one more.
func replaced(l []api.Leaf, at api.Berth, b []byte) []api.Leaf {
	l = clone(l)
	if at.Slot == len(l[at.Leaf].Slots) {
		l[at.Leaf].Slots = append(l[at.Leaf].Slots, nil)
	}
	l[at.Leaf].Slots[at.Slot] = b
	return l
}

// joined is leaves of which one has these writers.
func joined(l []api.Leaf, n int, itl ...int) []api.Leaf {
	l = clone(l)
	l[n].Itl = itl
	return l
}

// alike goes part by part, numbers by their bits: what is told must not hang on the layers below.
func alike(a, b api.Row) bool {
	return math.Float64bits(a.Key) == math.Float64bits(b.Key) && a.Dead == b.Dead && slices.Equal(bitsOf(a.Cols), bitsOf(b.Cols)) &&
		a.Writer == b.Writer && a.Roll == b.Roll
}

func allAlike(a, b []api.Row) bool { return slices.EqualFunc(a, b, alike) }

func leavesAlike(a, b []api.Leaf) bool {
	return slices.EqualFunc(a, b, func(x, y api.Leaf) bool {
		return slices.Equal(x.Itl, y.Itl) && slices.EqualFunc(x.Slots, y.Slots, bytes.Equal)
	})
}

// The calls by the words of the chapter, and of the layers 1, 4 and 8, as plainly as can be.

func slowKey(x float64) uint64 {
	if x != x {
		return theNaN
	}
	return math.Float64bits(x + 0) // -0 and 0 are 0
}

func slowValue(x float64) bool { return x == x || math.Float64bits(x) == theNaN }

// slowAhead tells whether a's key is ahead of b's.
func slowAhead(a, b float64) bool {
	if a != a {
		return false
	}
	return b != b || a < b
}

func slowRow(r api.Row) bool {
	good := slowKey(r.Key) == math.Float64bits(r.Key) && len(r.Cols) <= 4 && (!r.Dead || len(r.Cols) == 0)
	for _, x := range r.Cols {
		good = good && slowValue(x)
	}
	good = good && r.Writer >= 0 && r.Writer <= most && r.Roll.Cell >= 0 && r.Roll.Cell <= 65535
	return good && r.Roll.No >= 0 && r.Roll.No <= most && (r.Roll.Cell > 0 || r.Roll.No == 0)
}

// slowRead is the row of bytes; that they are its bytes is told by making them again.
func slowRead(b []byte) (api.Row, bool) {
	if len(b) != 52 {
		return api.Row{}, false
	}
	r := api.Row{Dead: b[0] == 1, Key: ofBits(binary.BigEndian.Uint64(b[1:])), Writer: int(binary.BigEndian.Uint32(b[9:]))}
	r.Roll = api.Roll{Cell: int(binary.BigEndian.Uint16(b[13:])), No: int(binary.BigEndian.Uint32(b[15:]))}
	for i := 0; i < int(b[19]) && i < 4; i++ {
		r.Cols = append(r.Cols, ofBits(binary.BigEndian.Uint64(b[20+8*i:])))
	}
	if !slowRow(r) || !bytes.Equal(text(r), b) {
		return api.Row{}, false
	}
	return r, true
}

func slowNeed(x api.Leaf) int {
	n := 18
	for _, s := range x.Slots {
		n += 1 + len(s)
	}
	return n
}

func slowLeaf(x api.Leaf) bool {
	good := len(x.Itl) == 4 && len(x.Slots) <= 64 && slowNeed(x) <= 508
	times := map[int]int{}
	for _, w := range x.Itl {
		times[w]++
		good = good && w >= 0 && w <= most && (w == 0 || times[w] == 1)
	}
	for i, s := range x.Slots {
		good = good && len(s) <= 255 && (len(s) > 0 || i < len(x.Slots)-1)
	}
	return good
}

// standing is a row with its berth.
type standing struct {
	at api.Berth
	r  api.Row
}

// slowAll are all rows of leaves that may be, in the order of berths; false: they may not be.
func slowAll(l []api.Leaf) ([]standing, bool) {
	good := len(l) >= 1 && len(l) <= 62
	all := []standing{}
	times := map[uint64]int{}
	for n, x := range l {
		good = good && slowLeaf(x)
		for i, s := range x.Slots {
			if len(s) > 0 {
				r, ok := slowRead(s)
				times[slowKey(r.Key)]++
				good = good && ok && times[slowKey(r.Key)] == 1
				all = append(all, standing{berth(n, i), r})
			}
		}
	}
	if !good {
		return nil, false
	}
	return all, true
}

func slowCheck(l []api.Leaf) bool { _, ok := slowAll(l); return ok }

func slowFind(l []api.Leaf, key float64) (api.Row, api.Berth, bool) {
	all, _ := slowAll(l)
	for _, s := range all {
		if slowKey(s.r.Key) == slowKey(key) {
			return s.r, s.at, true
		}
	}
	return api.Row{}, api.Berth{}, false
}

func slowGet(l []api.Leaf, at api.Berth) (api.Row, bool) {
	all, _ := slowAll(l)
	for _, s := range all {
		if s.at.Leaf == at.Leaf && s.at.Slot == at.Slot {
			return s.r, true
		}
	}
	return api.Row{}, false
}

// slowRows takes the least of those that are left, till none is.
func slowRows(l []api.Leaf, lo, hi float64) []api.Row {
	all, _ := slowAll(l)
	left := []api.Row{}
	for _, s := range all {
		if !slowAhead(s.r.Key, lo) && slowAhead(s.r.Key, hi) {
			left = append(left, s.r)
		}
	}
	rows := []api.Row{}
	for len(left) > 0 {
		least := 0
		for i := range left {
			if slowAhead(left[i].Key, left[least].Key) {
				least = i
			}
		}
		rows = append(rows, left[least])
		left = slices.Delete(left, least, least+1)
	}
	return rows
}

// slowJoin is what Join of layer 8 makes of writers; false: there is no room.
func slowJoin(itl []int, writer int, live []int) ([]int, bool) {
	itl = slices.Clone(itl)
	for _, w := range itl {
		if w == writer {
			return itl, true
		}
	}
	for i, w := range itl {
		if w == 0 {
			itl[i] = writer
			return itl, true
		}
	}
	for i, w := range itl {
		lives := false
		for _, x := range live {
			lives = lives || x == w
		}
		if !lives {
			itl[i] = writer
			return itl, true
		}
	}
	return nil, false
}

// told is what the calls that turn something tell: leaves, a berth, and an error.
type told struct {
	l  []api.Leaf
	at api.Berth
	e  api.Errno
}

// slowSlot is where a leaf has room for one more row; -1: nowhere.
func slowSlot(x api.Leaf) int {
	room, rows, hole := 508-slowNeed(x), 0, -1
	for i, s := range x.Slots {
		if len(s) > 0 {
			rows++
		} else if hole < 0 {
			hole = i
		}
	}
	switch {
	case rows >= 64:
		return -1
	case hole >= 0 && room >= 52:
		return hole
	case hole < 0 && room >= 53:
		return len(x.Slots)
	}
	return -1
}

func slowPut(l []api.Leaf, r api.Row, live []int) told {
	if !slowCheck(l) {
		return told{e: api.ErrArg}
	}
	if _, _, is := slowFind(l, r.Key); !slowRow(r) || r.Writer == 0 || is {
		return told{l: clone(l), e: api.ErrArg}
	}
	for n, x := range l {
		if slot := slowSlot(x); slot >= 0 {
			itl, ok := slowJoin(x.Itl, r.Writer, live)
			if !ok {
				return told{l: clone(l), e: api.ErrItl}
			}
			return told{joined(replaced(l, berth(n, slot), text(r)), n, itl...), berth(n, slot), api.OK}
		}
	}
	return told{l: clone(l), e: api.ErrPage}
}

func slowSet(l []api.Leaf, at api.Berth, r api.Row, live []int) told {
	if r.Writer == 0 {
		if x := slowLay(l, at, r); x.e != api.OK {
			return x
		}
		return told{l: clone(l), e: api.ErrArg}
	}
	x := slowLay(l, at, r)
	if x.e != api.OK {
		return x
	}
	itl, ok := slowJoin(l[at.Leaf].Itl, r.Writer, live)
	if !ok {
		return told{l: clone(l), e: api.ErrItl}
	}
	return told{l: joined(x.l, at.Leaf, itl...)}
}

func slowLay(l []api.Leaf, at api.Berth, r api.Row) told {
	if !slowCheck(l) {
		return told{e: api.ErrArg}
	}
	there, ok := slowGet(l, at)
	if !ok {
		return told{l: clone(l), e: api.ErrNone}
	}
	if !slowRow(r) || slowKey(r.Key) != slowKey(there.Key) {
		return told{l: clone(l), e: api.ErrArg}
	}
	return told{l: replaced(l, at, text(r))}
}

func slowDrop(l []api.Leaf, at api.Berth) told {
	if !slowCheck(l) {
		return told{e: api.ErrArg}
	}
	if _, ok := slowGet(l, at); !ok {
		return told{l: clone(l), e: api.ErrNone}
	}
	next := replaced(l, at, nil)
	s := next[at.Leaf].Slots
	for len(s) > 0 && len(s[len(s)-1]) == 0 {
		s = s[:len(s)-1]
	}
	next[at.Leaf].Slots = s
	return told{l: next}
}

func put(l []api.Leaf, r api.Row, live []int) told {
	x, at, e := Put(l, r, live)
	return told{x, at, e}
}

func set(l []api.Leaf, at api.Berth, r api.Row, live []int) told {
	x, e := Set(l, at, r, live)
	return told{l: x, e: e}
}

func laid(l []api.Leaf, at api.Berth, r api.Row) told { x, e := Lay(l, at, r); return told{l: x, e: e} }

func drop(l []api.Leaf, at api.Berth) told { x, e := Drop(l, at); return told{l: x, e: e} }

// brief is leaves in a few words: there may be very many.
func brief(l []api.Leaf) string {
	s := fmt.Sprintf("%d leaves", len(l))
	for n, x := range l {
		if n > 4 {
			return s + " .."
		}
		s += fmt.Sprintf(" %.60s [", fmt.Sprint(x.Itl))
		for i, b := range x.Slots {
			if r, ok := slowRead(b); ok {
				s += fmt.Sprintf(" %v", r)
			} else if len(b) > 0 {
				s += fmt.Sprintf(" %.50X(%d)", b, len(b))
			} else if i < 20 {
				s += " -"
			}
		}
		s += "]"
	}
	return s
}

// want holds what a call that turns something tells against what it must.
func want(t *testing.T, name string, l []api.Leaf, got, must told) {
	t.Helper()
	if !leavesAlike(got.l, must.l) || got.at != must.at || got.e != must.e {
		t.Fatalf("%s of %s = %s, %v, error %d, not %s, %v, %d", name, brief(l), brief(got.l), got.at, got.e, brief(must.l), must.at, must.e)
	}
}

func wantPut(t *testing.T, l []api.Leaf, r api.Row, live []int, next []api.Leaf, at api.Berth, why api.Errno) {
	t.Helper()
	want(t, fmt.Sprintf("Put %v, %v", r, live), l, put(l, r, live), told{next, at, why})
	want(t, fmt.Sprintf("Put %v, %v by the words", r, live), l, slowPut(l, r, live), told{next, at, why})
}

func wantSet(t *testing.T, l []api.Leaf, at api.Berth, r api.Row, live []int, next []api.Leaf, why api.Errno) {
	t.Helper()
	want(t, fmt.Sprintf("Set %v, %v, %v", at, r, live), l, set(l, at, r, live), told{l: next, e: why})
	want(t, fmt.Sprintf("Set %v, %v, %v by the words", at, r, live), l, slowSet(l, at, r, live), told{l: next, e: why})
}

func wantLay(t *testing.T, l []api.Leaf, at api.Berth, r api.Row, next []api.Leaf, why api.Errno) {
	t.Helper()
	want(t, fmt.Sprintf("Lay %v, %v", at, r), l, laid(l, at, r), told{l: next, e: why})
	want(t, fmt.Sprintf("Lay %v, %v by the words", at, r), l, slowLay(l, at, r), told{l: next, e: why})
}

func wantDrop(t *testing.T, l []api.Leaf, at api.Berth, next []api.Leaf, why api.Errno) {
	t.Helper()
	want(t, fmt.Sprintf("Drop %v", at), l, drop(l, at), told{l: next, e: why})
	want(t, fmt.Sprintf("Drop %v by the words", at), l, slowDrop(l, at), told{l: next, e: why})
}

func wantFind(t *testing.T, l []api.Leaf, key float64, must api.Row, where api.Berth, is bool) {
	t.Helper()
	if r, at, ok := Find(l, key); !alike(r, must) || at != where || ok != is {
		t.Fatalf("Find %v (%X) of %s = %v, %v, %v, not %v, %v, %v", key, math.Float64bits(key), brief(l), r, at, ok, must, where, is)
	}
	if r, at, ok := slowFind(l, key); !alike(r, must) || at != where || ok != is {
		t.Fatalf("Find %v of %s is by the words %v, %v, %v, not %v, %v, %v", key, brief(l), r, at, ok, must, where, is)
	}
}

func wantGet(t *testing.T, l []api.Leaf, at api.Berth, must api.Row, is bool) {
	t.Helper()
	if r, ok := Get(l, at); !alike(r, must) || ok != is {
		t.Fatalf("Get %v of %s = %v, %v, not %v, %v", at, brief(l), r, ok, must, is)
	}
	if r, ok := slowGet(l, at); !alike(r, must) || ok != is {
		t.Fatalf("Get %v of %s is by the words %v, %v, not %v, %v", at, brief(l), r, ok, must, is)
	}
}

// wantRows holds that the rows of a range have these keys, in this order, and are those that Find tells.
func wantRows(t *testing.T, l []api.Leaf, lo, hi float64, keys ...float64) {
	t.Helper()
	rows := Rows(l, lo, hi)
	got := []float64{}
	for _, r := range rows {
		got = append(got, r.Key)
	}
	if !slices.Equal(bitsOf(got), bitsOf(keys)) {
		t.Fatalf("Rows from %v to %v of %s = %v, not %v", lo, hi, brief(l), got, keys)
	}
	if must := slowRows(l, lo, hi); !allAlike(rows, must) {
		t.Fatalf("Rows from %v to %v of %s = %v, by the words %v", lo, hi, brief(l), rows, must)
	}
}

// edges are numbers at the edges of their order, none the key of two.
func edges() []float64 {
	return []float64{
		math.Inf(-1), -math.MaxFloat64, -2, -1, -math.SmallestNonzeroFloat64, 0, math.SmallestNonzeroFloat64, 1,
		math.Nextafter(1, 2), 2, 1 << 53, math.MaxFloat64, math.Inf(1), ofBits(theNaN),
	}
}

// wantAsked holds what only asks leaves against the chapter's words: all berths that there are, and some more, all keys, and some ranges.
func wantAsked(t *testing.T, l []api.Leaf) {
	t.Helper()
	if e := Check(l); e != api.OK && e != api.ErrArg || (e == api.OK) != slowCheck(l) {
		t.Fatalf("Check of %s = %d", brief(l), e)
	}
	keys := append(edges(), ofBits(minusNo), ofBits(theNaN+1), -math.NaN(), 3, 4, 5)
	all, _ := slowAll(l)
	for i, s := range all {
		if i < 20 || i > len(all)-4 {
			keys = append(keys, s.r.Key)
		}
	}
	for _, key := range keys {
		must, where, is := slowFind(l, key)
		wantFind(t, l, key, must, where, is)
	}
	for n := -1; n <= len(l); n++ {
		if n > 3 && n < len(l)-1 {
			continue
		}
		slots := 0
		if n >= 0 && n < len(l) {
			slots = min(len(l[n].Slots), 70)
		}
		for slot := -1; slot <= slots; slot++ {
			must, is := slowGet(l, berth(n, slot))
			wantGet(t, l, berth(n, slot), must, is)
		}
	}
	for i := range keys {
		lo, hi := keys[i], keys[(i*7+3)%len(keys)]
		if got, must := Rows(l, lo, hi), slowRows(l, lo, hi); !allAlike(got, must) {
			t.Fatalf("Rows from %v to %v of %s = %v, not %v", lo, hi, brief(l), got, must)
		}
	}
	if got, must := Rows(l, math.Inf(-1), math.NaN()), slowRows(l, math.Inf(-1), math.NaN()); !allAlike(got, must) {
		t.Fatalf("Rows of all of %s = %v, not %v", brief(l), got, must)
	}
}

// far are numbers that are far from all that may be, some of which would be near if bits fell off.
func far() []int {
	return []int{math.MaxInt, math.MinInt, math.MinInt + 1, 1 << 32, 1<<32 + 1, -1 << 32, 1<<40 + 2, most, -most, 1 << 16, 65537, 256, 257, -256}
}

// goodRows are rows that may be and may be put, at the edges of their parts; their keys are in none of full.
func goodRows() []api.Row {
	return []api.Row{
		of(-1), of(-2, 1), of(-3, 1, 2), of(-4, 1, 2, 3), of(-5, 1, 2, 3, 4), of(1<<40, 0, 0, 0, 0),
		{Key: -6, Dead: true, Writer: 1}, {Key: -7, Writer: most, Cols: []float64{}},
		{Key: -8, Writer: 2, Roll: api.Roll{Cell: 1}}, {Key: -9, Writer: 3, Roll: api.Roll{Cell: 65535, No: most}},
		{Key: math.Inf(1), Writer: most, Roll: api.Roll{Cell: 65535, No: most}, Cols: []float64{ofBits(minusNo), ofBits(theNaN), math.Inf(-1), math.SmallestNonzeroFloat64}},
		{Key: math.Inf(-1), Writer: 1}, {Key: ofBits(theNaN), Writer: 7, Cols: []float64{5}}, of(math.SmallestNonzeroFloat64), of(-math.MaxFloat64, 1),
		{Key: 0.5, Dead: true, Writer: most, Roll: api.Roll{Cell: 7, No: 8}}, of(math.Nextafter(1, 2), 8),
	}
}

// badRows are rows that may not be, each in one part, and have otherwise a key.
func badRows(key float64) []api.Row {
	return []api.Row{
		{Key: ofBits(minusNo), Writer: 1}, {Key: ofBits(theNaN + 1), Writer: 1}, {Key: ofBits(theNaN | minusNo), Writer: 1},
		{Key: key, Dead: true, Cols: []float64{0}, Writer: 1}, {Key: key, Cols: make([]float64, 5), Writer: 1},
		{Key: key, Cols: []float64{1, ofBits(theNaN - 1)}, Writer: 1}, {Key: key, Cols: []float64{ofBits(theNaN | minusNo)}, Writer: 1},
		{Key: key, Writer: -1}, {Key: key, Writer: most + 1}, {Key: key, Writer: math.MinInt}, {Key: key, Writer: math.MaxInt}, {Key: key, Writer: 1<<32 + 1},
		{Key: key, Writer: 1, Roll: api.Roll{Cell: -1}}, {Key: key, Writer: 1, Roll: api.Roll{Cell: 65536}}, {Key: key, Writer: 1, Roll: api.Roll{No: 1}},
		{Key: key, Writer: 1, Roll: api.Roll{Cell: 1, No: -1}}, {Key: key, Writer: 1, Roll: api.Roll{Cell: 1, No: most + 1}},
	}
}

// sample is leaves with a name.
type sample struct {
	name string
	l    []api.Leaf
}

// wide is a leaf of so many slots, of which the last ones have rows of the keys from one on; all others are empty.
func wide(slots, rows int, from float64) api.Leaf {
	x := api.Leaf{Itl: nobody(), Slots: make([][]byte, slots)}
	for i := range rows {
		x.Slots[slots-rows+i] = text(of(from+float64(i), float64(i)))
	}
	return x
}

// goodLeaves are leaves that may be: of each edge of how many there are, empty, full, and with rows here and there.
func goodLeaves() []sample {
	edge := plain(goodRows()[:9]...)
	more := plain(goodRows()[9:]...)
	noWriter := plain(api.Row{Key: 7}, api.Row{Key: 8, Dead: true})
	turned := full(2)
	slices.Reverse(turned[0].Slots)
	slices.Reverse(turned)
	l := []sample{
		{"an empty one", blank(1)},
		{"lists that are empty, not nil", []api.Leaf{{Itl: nobody(), Slots: [][]byte{}}}},
		{"empty slots that are not nil", []api.Leaf{made(nobody(), []byte{}, text(of(1)))}},
		{"rows at the edges", []api.Leaf{edge, more}},
		{"rows at the edges, a leaf between", []api.Leaf{more, plain(), edge}},
		{"rows that nobody wrote", []api.Leaf{noWriter}},
		{"all edges of keys", []api.Leaf{plain(of(math.Inf(-1)), of(ofBits(theNaN)), of(0), of(1)), plain(of(math.Nextafter(1, 2)), of(math.SmallestNonzeroFloat64), of(-math.SmallestNonzeroFloat64), of(math.Inf(1)))}},
		{"writers at their edges", []api.Leaf{made([]int{most, 0, 1, 0}, text(of(1))), made([]int{most, 1, 2, 3})}},
		{"keys that fall", turned},
		{"64 slots, one row", []api.Leaf{wide(64, 1, 0)}},
		{"64 slots, seven rows", []api.Leaf{wide(64, 7, 0)}},
		{"64 slots, eight rows", []api.Leaf{wide(64, 8, 0)}},
		{"22 slots, nine rows", []api.Leaf{wide(22, 9, 0), plain()}},
		{"nine slots, eight rows", []api.Leaf{wide(9, 8, 0), run(20, 8)}},
	}
	for _, n := range []int{1, 2, 3, 61, 62} {
		l = append(l,
			sample{fmt.Sprintf("%d empty ones", n), blank(n)},
			sample{fmt.Sprintf("%d full ones", n), full(n)},
			sample{fmt.Sprintf("%d full ones but for a few berths", n), holed(full(n), berth(0, 2), berth(n-1, 4), berth(n-1, 5))},
			sample{fmt.Sprintf("%d, the last one with a row", n), append(blank(n-1), run(3, 1))})
	}
	return l
}

// badBytes are bytes that are no row's on a leaf, each for one reason; the others would be that of the key -50.
func badBytes() [][]byte {
	good := text(of(-50, 1, 2))
	l := [][]byte{good[:51], append(bytes.Clone(good), 0), {1}, {0}, good[:20], good[:36], bytes.Repeat(good, 2), make([]byte, 255), make([]byte, 53), make([]byte, 51)}
	for n := 1; n < 256; n += 5 {
		if n != 52 {
			l = append(l, append(bytes.Clone(good), make([]byte, 255)...)[:n])
		}
	}
	for _, cols := range [][]float64{nil, {1}, {1, 2}, {1, 2, 3}} {
		for at := 20 + 8*len(cols); at < 52; at++ {
			for _, c := range []byte{1, 128, 255} {
				b := text(of(-50, cols...))
				b[at] = c
				l = append(l, b)
			}
		}
	}
	for c := 2; c < 256; c++ {
		b := text(of(-50))
		b[0] = byte(c)
		l = append(l, b)
		if c > 4 {
			b = text(of(-50, 0, 0, 0, 0))
			b[19] = byte(c)
			l = append(l, b)
		}
	}
	for _, r := range badRows(-50) {
		if r.Writer <= most+1 && r.Writer > 0 && r.Roll.Cell >= 0 && r.Roll.Cell <= 65535 && len(r.Cols) < 5 {
			l = append(l, text(r)) // the others have no bytes of their own
		}
	}
	return l
}

// badLeaves are leaves that may not be, each for one reason.
func badLeaves() []sample {
	l := []sample{{"nil", nil}, {"none", []api.Leaf{}}}
	for _, n := range []int{63, 64, 65, 124, 256 + 2, 65536 + 1} {
		l = append(l, sample{fmt.Sprintf("%d empty ones", n), blank(n)}, sample{fmt.Sprintf("%d, the first one with a row", n), append([]api.Leaf{run(1, 1)}, blank(n-1)...)})
	}
	l = append(l, sample{"63 full ones", full(63)})
	for _, itl := range [][]int{nil, {}, {0, 0, 0}, {0, 0, 0, 0, 0}, {-1, 0, 0, 0}, {0, 0, 0, most + 1}, {1, 2, 3, 1}, {0, 5, 5, 0}, {math.MaxInt, 0, 0, 0}} {
		l = append(l,
			sample{fmt.Sprintf("the writers %v", itl), []api.Leaf{made(itl)}},
			sample{fmt.Sprintf("the writers %v on the second of three", itl), []api.Leaf{run(1, 2), made(itl, text(of(9))), run(20, 2)}},
			sample{fmt.Sprintf("the writers %v on the last one", itl), append(full(61), made(itl))})
	}
	for _, x := range []api.Leaf{run(1, 10), made(nobody(), nil), made(nobody(), text(of(1)), nil), made(nobody(), text(of(1)), []byte{}), wide(65, 1, 1), wide(64, 9, 1), wide(23, 9, 1), {}} {
		l = append(l,
			sample{fmt.Sprintf("a leaf of %d slots that may not be", len(x.Slots)), []api.Leaf{x}},
			sample{fmt.Sprintf("a leaf of %d slots that may not be, behind others", len(x.Slots)), []api.Leaf{run(30, 2), plain(), x}})
	}
	for i, b := range badBytes() {
		l = append(l,
			sample{fmt.Sprintf("bytes %d: %X", i, b), []api.Leaf{made(nobody(), b)}},
			sample{fmt.Sprintf("bytes %d: %X in the middle", i, b), []api.Leaf{run(1, 2), made(nobody(), nil, text(of(9)), b, text(of(10))), run(20, 2)}})
	}
	for _, key := range edges() {
		one, two := of(key, 1, 2), by(of(key), 9)
		dead := api.Row{Key: key, Dead: true}
		l = append(l,
			sample{fmt.Sprintf("%v twice on a leaf", key), []api.Leaf{plain(one, two)}},
			sample{fmt.Sprintf("%v twice on a leaf, others around", key), []api.Leaf{plain(one, of(5), dead, of(6)), plain()}},
			sample{fmt.Sprintf("%v on two leaves", key), []api.Leaf{plain(one), plain(two)}},
			sample{fmt.Sprintf("%v, dead, on two leaves, others around", key), []api.Leaf{plain(of(5), dead), plain(of(6)), plain(of(7), dead, of(8))}},
			sample{fmt.Sprintf("%v just so on the first and the last one", key), append(append([]api.Leaf{plain(one)}, blank(60)...), plain(one))})
	}
	return append(l, sample{"a key three times", []api.Leaf{plain(of(5), of(5)), plain(of(5))}})
}

// The chapter's example: a leaf has room for nine rows, whatever columns they have.
func TestExample(t *testing.T) {
	for cols := range 5 {
		l := blank(2)
		for i := range 18 {
			next, at, e := Put(l, of(float64(-i), make([]float64, cols)...), nil)
			if e != api.OK || at != berth(i/9, i%9) {
				t.Fatalf("row %d: berth %v, error %d", i, at, e)
			}
			l = next
		}
		if _, at, e := Put(l, of(1), nil); e != api.ErrPage || at != berth(0, 0) {
			t.Errorf("one more: berth %v, error %d", at, e)
		}
	}
}

// Hp1: leaves that may be; Find, Get and Rows of them by the chapter's words.
func TestGoodLeaves(t *testing.T) {
	for _, s := range goodLeaves() {
		if e := Check(s.l); e != api.OK || !slowCheck(s.l) {
			t.Errorf("%s: error %d", s.name, e)
		}
		wantAsked(t, s.l)
	}
}

// Hp1, Hp2: of leaves that may not be: ErrArg, with zeros; that comes ahead of all else that is wrong. Nothing is found on them.
func TestBadLeaves(t *testing.T) {
	for _, s := range badLeaves() {
		if e := Check(s.l); e != api.ErrArg || slowCheck(s.l) {
			t.Fatalf("%s: Check: error %d", s.name, e)
		}
		for _, key := range []float64{-50, 0, 1, 5, 9, 20, 30, math.Inf(1), math.NaN()} {
			wantFind(t, s.l, key, api.Row{}, api.Berth{}, false)
		}
		wantRows(t, s.l, math.Inf(-1), math.NaN())
		for _, at := range []api.Berth{{}, berth(0, 1), berth(1, 0), berth(1, 1), berth(2, 0), berth(-1, 0), berth(len(s.l), 0), berth(len(s.l)-1, 0)} {
			wantGet(t, s.l, at, api.Row{}, false)
			wantSet(t, s.l, at, of(77), nil, nil, api.ErrArg)
			wantLay(t, s.l, at, of(77), nil, api.ErrArg)
			wantDrop(t, s.l, at, nil, api.ErrArg)
		}
		for _, r := range []api.Row{{}, of(77), by(of(77), -1), of(5), of(ofBits(minusNo))} {
			wantPut(t, s.l, r, nil, nil, api.Berth{}, api.ErrArg)
			wantSet(t, s.l, api.Berth{}, r, []int{1, 2, 3}, nil, api.ErrArg)
			wantLay(t, s.l, api.Berth{}, r, nil, api.ErrArg)
		}
	}
}

// Hp1: how many there are: 1 to 62.
func TestCheckOfLengths(t *testing.T) {
	for n := range 200 {
		for _, l := range [][]api.Leaf{blank(n), full(n)} {
			if e := Check(l); (e == api.OK) != (n >= 1 && n <= 62) || e != api.OK && e != api.ErrArg {
				t.Errorf("%d leaves: error %d", n, e)
			}
		}
	}
}

// Hp1: each byte of some rows' bytes made any other one: Check tells whether that is a row's still, and Get which one.
func TestCheckOfBytes(t *testing.T) {
	is, none := 0, 0
	for _, r := range []api.Row{of(-50), of(0, 1), {Key: 3, Dead: true, Writer: 5}, {Key: ofBits(theNaN), Cols: []float64{ofBits(theNaN), 0, ofBits(minusNo), 1}, Writer: most, Roll: api.Roll{Cell: 65535, No: most}}, {}} {
		for at := range 52 {
			for c := range 256 {
				b := text(r)
				b[at] = byte(c)
				l := []api.Leaf{made(nobody(), b)}
				if (Check(l) == api.OK) != slowCheck(l) {
					t.Fatalf("Check of %X = %d", b, Check(l))
				}
				must, ok := slowRead(b)
				wantGet(t, l, api.Berth{}, must, ok)
				if ok {
					is++
				} else {
					none++
				}
			}
		}
	}
	if is < 10000 || none < 10000 {
		t.Errorf("%d of rows, %d of none: too few to tell", is, none)
	}
}

// Hp1: a key that is there twice, in each two berths of two leaves; two keys that are near each other are two.
func TestCheckOfSameKey(t *testing.T) {
	near := []float64{1, math.Nextafter(1, 0), 0, math.SmallestNonzeroFloat64, -math.SmallestNonzeroFloat64, ofBits(theNaN), math.Inf(1), math.MaxFloat64, math.Inf(-1)}
	for i, key := range near {
		for j, other := range near {
			for a := range 6 {
				for b := range 6 {
					if a == b {
						continue
					}
					l := []api.Leaf{plain(of(11), of(12), of(13)), plain(of(14), of(15), of(16))}
					l[a/3].Slots[a%3] = text(of(key, 5))
					l[b/3].Slots[b%3] = text(by(of(other), 6))
					if is := Check(l) == api.OK; is != (i != j) {
						t.Fatalf("the keys %v and %v in %s: %v", key, other, brief(l), is)
					}
				}
			}
		}
	}
}

// Hp1: Find of keys on the first leaf, on the last one, and on none; of keys that are the same by layer 1.
func TestFind(t *testing.T) {
	for _, n := range []int{1, 2, 62} {
		l := full(n)
		for _, i := range []int{0, 1, 8, 9*n - 9, 9*n - 1} {
			wantFind(t, l, float64(i), of(float64(i), make([]float64, i%9%5)...), berth(i/9, i%9), true)
		}
		for _, key := range []float64{-1, 0.5, 8.5, float64(9 * n), math.Inf(1), math.Inf(-1), math.NaN(), math.Nextafter(3, 4)} {
			wantFind(t, l, key, api.Row{}, api.Berth{}, false)
		}
	}
	zero, none := of(0, 3), of(ofBits(theNaN), 4)
	for _, l := range [][]api.Leaf{{plain(of(1), zero, none)}, {plain(of(1), zero), plain(none)}, {plain(none), plain(of(1)), plain(of(2), zero)}} {
		for _, key := range []float64{0, ofBits(minusNo)} {
			_, at, _ := slowFind(l, key)
			wantFind(t, l, key, zero, at, true)
		}
		for _, bits := range []uint64{theNaN, theNaN - 1, theNaN + 1, theNaN | minusNo, 0x7FF0000000000001, 0xFFFFFFFFFFFFFFFF} {
			_, at, _ := slowFind(l, math.NaN())
			wantFind(t, l, ofBits(bits), none, at, true)
		}
	}
	wantFind(t, []api.Leaf{plain(of(1))}, math.NaN(), api.Row{}, api.Berth{}, false)
	dead := api.Row{Key: 4, Dead: true, Writer: 6, Roll: api.Roll{Cell: 7, No: 8}}
	wantFind(t, []api.Leaf{plain(), plain(dead)}, 4, dead, berth(1, 0), true)
}

// Hp1: Get of each berth, of a leaf and a slot below 0, of an empty slot, and of the last ones and one more.
func TestGet(t *testing.T) {
	for _, r := range goodRows() {
		for _, l := range [][]api.Leaf{{plain(r)}, append(full(2), made(nobody(), nil, text(r), nil, text(of(100))))} {
			n := len(l) - 1
			slot := n / 2 // 0 on the one, 1 on the three
			wantGet(t, l, berth(n, slot), r, true)
			for _, bad := range append(far(), -1, -2, len(l), len(l)+1, n+256, n-256) {
				wantGet(t, l, berth(bad, slot), api.Row{}, false)
				wantGet(t, l, berth(bad, 0), api.Row{}, false)
			}
			for _, bad := range append(far(), -1, -2, len(l[n].Slots), len(l[n].Slots)+1, slot+256, slot-256) {
				wantGet(t, l, berth(n, bad), api.Row{}, false)
				wantGet(t, l, berth(bad, bad), api.Row{}, false)
			}
		}
	}
	l := holed(full(2), berth(0, 0), berth(1, 7))
	wantGet(t, l, berth(0, 0), api.Row{}, false)
	wantGet(t, l, berth(1, 7), api.Row{}, false)
	wantGet(t, l, berth(0, 8), of(8, 0, 0, 0), true)
	wantGet(t, l, berth(0, 9), api.Row{}, false)
	wantGet(t, l, berth(1, 8), of(17, 0, 0, 0), true)
	wantGet(t, l, berth(1, 9), api.Row{}, false)
	wantGet(t, l, berth(2, 0), api.Row{}, false)
}

// Hp1: Rows of empty ranges, of one key, of all, of bounds that are no numbers, and their order over several leaves.
func TestRows(t *testing.T) {
	nan, inf := math.NaN(), math.Inf(1)
	l := []api.Leaf{plain(of(7), of(-1), of(3)), plain(), plain(of(0), of(inf), of(5)), plain(of(-inf), of(ofBits(theNaN)), of(4))}
	all := []float64{-inf, -1, 0, 3, 4, 5, 7, inf}
	wantRows(t, l, -inf, nan, all...)
	wantRows(t, l, -inf, inf, all[:7]...)
	wantRows(t, l, math.Nextafter(-inf, 0), nan, all[1:]...)
	for i, lo := range all {
		wantRows(t, l, lo, lo)
		if next := math.Nextafter(lo, inf); next != lo {
			wantRows(t, l, lo, next, lo)
		}
		for j, hi := range all {
			if j >= i {
				wantRows(t, l, lo, hi, all[i:j]...)
			} else {
				wantRows(t, l, lo, hi)
			}
		}
		wantRows(t, l, lo, nan, all[i:]...)
		wantRows(t, l, nan, lo)
	}
	wantRows(t, l, inf, nan, inf)
	wantRows(t, l, nan, nan) // no key is behind the one that is no number
	wantRows(t, l, ofBits(minusNo), 3, 0)
	wantRows(t, l, ofBits(minusNo), ofBits(minusNo))
	wantRows(t, l, -1, ofBits(minusNo), -1)
	wantRows(t, l, -inf, ofBits(0xFFF8000000000000), all...)
	wantRows(t, l, 1, 2)
	wantRows(t, blank(3), -inf, nan)
	wantRows(t, []api.Leaf{plain(api.Row{Key: 2, Dead: true}, of(1))}, 0, 9, 1, 2) // dead ones too
	keys := []float64{}
	for i := range 62 * 9 {
		keys = append(keys, float64(i))
	}
	wantRows(t, full(62), 0, nan, keys...)
	turned := full(62)
	slices.Reverse(turned)
	wantRows(t, turned, -5, 1000, keys...)
	wantRows(t, turned, 8, 11, 8, 9, 10)
}

// Hp2: Put into empty leaves, into empty slots, behind the last slot, and on the first leaf that has room; its Writer joins there alone.
func TestPut(t *testing.T) {
	for _, r := range goodRows() {
		w := r.Writer
		wantPut(t, blank(1), r, nil, []api.Leaf{made([]int{w, 0, 0, 0}, text(r))}, berth(0, 0), api.OK)
		wantPut(t, blank(3), r, nil, []api.Leaf{made([]int{w, 0, 0, 0}, text(r)), plain(), plain()}, berth(0, 0), api.OK)
		for _, n := range []int{2, 3, 62} {
			last := append(full(n-1), run(5000, 8))
			wantPut(t, last, r, nil, joined(replaced(last, berth(n-1, 8), text(r)), n-1, w, 0, 0, 0), berth(n-1, 8), api.OK)
			for _, at := range []api.Berth{berth(0, 0), berth(0, 7), berth(n-1, 3)} {
				l := holed(full(n), at)
				wantPut(t, l, r, nil, joined(replaced(l, at, text(r)), at.Leaf, w, 0, 0, 0), at, api.OK)
			}
			l := holed(full(n), berth(n-1, 4), berth(n-1, 6), berth(n-1, 5))
			wantPut(t, l, r, nil, joined(replaced(l, berth(n-1, 4), text(r)), n-1, w, 0, 0, 0), berth(n-1, 4), api.OK)
			wantPut(t, full(n), r, nil, full(n), api.Berth{}, api.ErrPage)
		}
	}
}

// Hp2: rows are put till a leaf is full, then on the next one, till none has room.
func TestPutTillFull(t *testing.T) {
	for _, n := range []int{1, 2, 5, 62} {
		l := blank(n)
		for i := range 9 * n {
			got := put(l, of(float64(i), make([]float64, i%9%5)...), nil)
			if got.e != api.OK || got.at != berth(i/9, i%9) {
				t.Fatalf("row %d of %d leaves: berth %v, error %d", i, n, got.at, got.e)
			}
			l = got.l
		}
		must := full(n)
		for i := range must {
			must[i].Itl[0] = 1
		}
		if !leavesAlike(l, must) {
			t.Fatalf("%s, not %s", brief(l), brief(must))
		}
		wantPut(t, l, of(-1), nil, l, api.Berth{}, api.ErrPage)
		at := berth(n/2, 3)
		l = drop(l, at).l
		wantPut(t, l, of(-1), nil, replaced(l, at, text(of(-1))), at, api.OK)
	}
}

// Hp2: how much room a leaf must have: 53 bytes, or 52, if it has an empty slot; of 64 slots an empty one is taken.
func TestPutOfRoom(t *testing.T) {
	r := of(-1, 2)
	for slots := 1; slots <= 64; slots++ {
		for rows := 1; rows <= min(slots, 9); rows++ {
			x := wide(slots, rows, 100)
			if slowNeed(x) > 508 {
				continue
			}
			has := slots > rows && 18+slots+52*(rows+1) <= 508 || slots == rows && rows < 9
			l := []api.Leaf{x, plain()}
			if !has {
				wantPut(t, l, r, nil, []api.Leaf{x, made([]int{1, 0, 0, 0}, text(r))}, berth(1, 0), api.OK)
				wantPut(t, l[:1], r, nil, l[:1], api.Berth{}, api.ErrPage)
				continue
			}
			at := berth(0, 0)
			if slots == rows {
				at.Slot = slots
			}
			wantPut(t, l, r, nil, joined(replaced(l, at, text(r)), 0, 1, 0, 0, 0), at, api.OK)
		}
	}
	wantPut(t, []api.Leaf{wide(21, 9, 100)}, r, nil, []api.Leaf{wide(21, 9, 100)}, api.Berth{}, api.ErrPage)
}

// Hp2: Put of rows that may not be, of the Writer 0, and of keys that stand, also on full leaves and where the Writer couldn't join; the leaves are told as they were handed in.
func TestPutRefuses(t *testing.T) {
	for _, s := range goodLeaves() {
		for _, r := range badRows(-50) {
			wantPut(t, s.l, r, nil, s.l, api.Berth{}, api.ErrArg)
		}
		wantPut(t, s.l, by(of(-50), 0), nil, s.l, api.Berth{}, api.ErrArg)
		wantPut(t, s.l, api.Row{Key: -50, Dead: true}, nil, s.l, api.Berth{}, api.ErrArg)
		all, _ := slowAll(s.l)
		for i, x := range all {
			if i > 10 && i < len(all)-2 {
				continue
			}
			wantPut(t, s.l, x.r, nil, s.l, api.Berth{}, api.ErrArg)
			wantPut(t, s.l, by(of(x.r.Key, 8, 8), 77), nil, s.l, api.Berth{}, api.ErrArg)
			wantPut(t, s.l, api.Row{Key: x.r.Key, Dead: true, Writer: 5}, nil, s.l, api.Berth{}, api.ErrArg)
		}
	}
	busy := []int{11, 12, 13, 14}
	for _, l := range [][]api.Leaf{{made(busy)}, joined(full(2), 0, busy...), {made(busy, text(of(3))), plain()}} {
		for _, r := range append(badRows(-50), by(of(-50), 0), by(of(3), 0)) {
			wantPut(t, l, r, busy, l, api.Berth{}, api.ErrArg)
		}
	}
	wantPut(t, joined(full(1), 0, busy...), of(3), busy, joined(full(1), 0, busy...), api.Berth{}, api.ErrArg)
	wantPut(t, joined(full(1), 0, busy...), of(-1), busy, joined(full(1), 0, busy...), api.Berth{}, api.ErrPage) // ahead of ErrItl
	wantPut(t, joined(blank(1), 0, busy...), of(-1), busy, joined(blank(1), 0, busy...), api.Berth{}, api.ErrItl)
	wantPut(t, joined(blank(2), 0, busy...), of(-1), busy, joined(blank(2), 0, busy...), api.Berth{}, api.ErrItl) // the next one is not tried
	l := joined(append(full(1), blank(1)...), 0, busy...)
	wantPut(t, l, of(-1), busy, joined(replaced(l, berth(1, 0), text(of(-1))), 1, 1, 0, 0, 0), berth(1, 0), api.OK) // where there is no room nobody need join
	l = joined(append(full(1), blank(2)...), 1, busy...)
	wantPut(t, l, of(-1), busy, l, api.Berth{}, api.ErrItl)
}

// joins are writers of a leaf, who lives, and where 5 joins; -1: it can't.
func joins() []struct {
	itl, live []int
	at        int
} {
	return []struct {
		itl, live []int
		at        int
	}{
		{[]int{0, 0, 0, 0}, nil, 0}, {[]int{5, 0, 0, 0}, nil, 0}, {[]int{0, 0, 5, 0}, nil, 2}, {[]int{1, 0, 0, 0}, nil, 1}, {[]int{1, 2, 3, 0}, []int{1, 2, 3}, 3},
		{[]int{1, 2, 3, 0}, nil, 3}, {[]int{1, 2, 3, 4}, nil, 0}, {[]int{1, 2, 3, 4}, []int{1}, 1}, {[]int{1, 2, 3, 4}, []int{2, 1, 9}, 2}, {[]int{1, 2, 3, 4}, []int{3, 2, 1}, 3},
		{[]int{1, 2, 3, 4}, []int{4, 2, 3, 1}, -1}, {[]int{1, 2, 3, 5}, []int{1, 2, 3, 5}, 3}, {[]int{1, 2, 3, 4}, []int{1, 2, 3, 4, 5}, -1}, {[]int{1, 2, 3, 4}, []int{5, 2, 3, 4}, 0},
		{[]int{most, 1, 2, 3}, []int{most, 1, 2, 3, -1, 0}, -1}, {[]int{1, 2, 3, 4}, []int{-1, -2, -3, -4, 0, 1 << 40}, 0}, {[]int{1, 0, 3, 4}, []int{0, 1, 3, 4}, 1},
	}
}

// Hp2: who joins where a row is put or set, and that nobody joins where one is laid.
func TestJoins(t *testing.T) {
	for _, c := range joins() {
		r := by(of(-1, 7), 5)
		next := slices.Clone(c.itl)
		if c.at >= 0 {
			next[c.at] = 5
		}
		for n := range 3 {
			l := []api.Leaf{run(10, 9), run(20, 9), run(30, 9)}
			at := berth(n, 4)
			l = replaced(l, at, text(of(-1)))
			l[n].Itl = c.itl
			wantLay(t, l, at, r, replaced(l, at, text(r)), api.OK)
			gap := holed(l, at)
			if c.at < 0 {
				wantSet(t, l, at, r, c.live, l, api.ErrItl)
				wantPut(t, gap, r, c.live, gap, api.Berth{}, api.ErrItl)
			} else {
				wantSet(t, l, at, r, c.live, joined(replaced(l, at, text(r)), n, next...), api.OK)
				wantPut(t, gap, r, c.live, joined(replaced(gap, at, text(r)), n, next...), at, api.OK)
			}
		}
	}
}

// berthsOf are all berths where a row stands, or some, if there are many.
func berthsOf(l []api.Leaf) []api.Berth {
	all, _ := slowAll(l)
	at := []api.Berth{}
	for i, s := range all {
		if i < 12 && len(l) < 60 || i == 1 || i > len(all)-3 {
			at = append(at, s.at)
		}
	}
	return at
}

// Hp2, Hp3: Set and Lay of each berth where a row stands, on full leaves too: another version of it stands there; all else stays.
func TestSetAndLay(t *testing.T) {
	for _, s := range goodLeaves() {
		for _, at := range berthsOf(s.l) {
			there, _ := slowGet(s.l, at)
			for _, r := range []api.Row{
				by(there, 9), by(of(there.Key), 9), by(of(there.Key, 4, 3, 2, 1), 9), {Key: there.Key, Dead: true, Writer: 9},
				{Key: there.Key, Dead: true, Writer: 9, Roll: api.Roll{Cell: 65535, No: most}},
			} {
				laid := replaced(s.l, at, text(r))
				itl, _ := slowJoin(s.l[at.Leaf].Itl, 9, nil)
				wantLay(t, s.l, at, r, laid, api.OK)
				wantSet(t, s.l, at, r, nil, joined(laid, at.Leaf, itl...), api.OK)
			}
			wantLay(t, s.l, at, by(of(there.Key), 0), replaced(s.l, at, text(by(of(there.Key), 0))), api.OK)
			wantLay(t, s.l, at, by(there, 0), replaced(s.l, at, text(by(there, 0))), api.OK)
		}
	}
	for _, r := range goodRows() {
		for _, l := range [][]api.Leaf{full(1), full(62)} {
			at := berth(len(l)-1, 8)
			l = replaced(l, at, text(api.Row{Key: r.Key, Dead: true}))
			wantLay(t, l, at, r, replaced(l, at, text(r)), api.OK)
			wantSet(t, l, at, r, nil, joined(replaced(l, at, text(r)), at.Leaf, r.Writer, 0, 0, 0), api.OK)
		}
	}
}

// noBerths are berths where no row of leaves stands.
func noBerths(l []api.Leaf) []api.Berth {
	at := []api.Berth{berth(-1, 0), berth(0, -1), berth(-1, -1), berth(len(l), 0), berth(len(l)+1, 0)}
	for n, x := range l {
		if n > 2 && n < len(l)-1 {
			continue
		}
		at = append(at, berth(n, len(x.Slots)), berth(n, len(x.Slots)+1), berth(n, -1), berth(n, 64), berth(n, n-256))
		for i, s := range x.Slots {
			if len(s) == 0 {
				at = append(at, berth(n, i))
			}
		}
	}
	if len(l) > 3 {
		return at
	}
	for _, bad := range far() {
		at = append(at, berth(bad, 0), berth(0, bad), berth(bad, bad))
	}
	return at
}

// strangers are rows that may be, of keys near a key and far from it that are other ones than it.
func strangers(key float64) []api.Row {
	keys := []float64{-50, 0, 2, math.Inf(1), math.Inf(-1), ofBits(theNaN), key + 1, -key, math.Nextafter(key, 1e9), math.Nextafter(key, -1e9)}
	rows := []api.Row{}
	for _, k := range keys {
		if slowKey(k) == slowKey(key) || k != k && math.Float64bits(k) != theNaN || k == 0 && math.Signbit(k) {
			continue
		}
		rows = append(rows, of(k), by(of(k, 1), 9), by(of(k), 0), api.Row{Key: k, Dead: true, Writer: 7, Roll: api.Roll{Cell: 1, No: 2}})
	}
	return rows
}

// Hp2: Set and Lay where no row stands, of rows that may not be, of the Writer 0 (Set alone), and of another one's key, that stands or not; which error is told where two could be, and the leaves as they were handed in.
func TestSetAndLayRefuse(t *testing.T) {
	busy := []int{most, 12, 13, 14}
	for _, s := range goodLeaves() {
		for _, at := range noBerths(s.l) {
			for _, r := range []api.Row{of(-50), {}, of(3)} {
				wantSet(t, s.l, at, r, nil, s.l, api.ErrNone)
				wantLay(t, s.l, at, r, s.l, api.ErrNone)
			}
		}
		places := berthsOf(s.l)
		for i, at := range places {
			l := joined(s.l, at.Leaf, busy...)
			there, _ := slowGet(s.l, at)
			for _, r := range badRows(there.Key) {
				wantSet(t, l, at, r, busy, l, api.ErrArg)
				wantLay(t, l, at, r, l, api.ErrArg)
			}
			for _, r := range []api.Row{by(of(there.Key), 0), by(there, 0), {Key: there.Key, Dead: true}} {
				wantSet(t, l, at, r, busy, l, api.ErrArg)
				wantSet(t, s.l, at, r, nil, s.l, api.ErrArg)
				wantLay(t, l, at, r, replaced(l, at, text(r)), api.OK)
			}
			for j, r := range strangers(there.Key) {
				if len(places) > 3 && (i+j)%3 > 0 {
					continue
				}
				wantSet(t, l, at, r, busy, l, api.ErrArg)
				wantSet(t, s.l, at, r, nil, s.l, api.ErrArg)
				wantLay(t, l, at, r, l, api.ErrArg)
			}
			for j, other := range places {
				if i == j || len(places) > 6 && (i+j)%3 > 0 {
					continue
				}
				its, _ := slowGet(s.l, other)
				for _, r := range []api.Row{by(its, 9), by(its, 0), {Key: its.Key, Dead: true, Writer: 9}, by(of(its.Key, 5), most)} {
					wantSet(t, l, at, r, busy, l, api.ErrArg)
					wantLay(t, l, at, r, l, api.ErrArg)
				}
			}
			wantSet(t, l, at, by(of(there.Key), 9), busy, l, api.ErrItl)
			wantSet(t, l, at, by(there, 9), busy, l, api.ErrItl)
			wantSet(t, l, at, by(there, 14), busy, replaced(l, at, text(by(there, 14))), api.OK)
		}
	}
}

// Hp2: Drop of each berth where a row stands: its slot is empty, or gone, if it was at the end, with the empty ones ahead of it; all else stays. What was dropped is not dropped again.
func TestDrop(t *testing.T) {
	for _, s := range goodLeaves() {
		for _, at := range noBerths(s.l) {
			wantDrop(t, s.l, at, s.l, api.ErrNone)
		}
		for _, at := range berthsOf(s.l) {
			x := slowDrop(s.l, at)
			wantDrop(t, s.l, at, x.l, api.OK)
			wantDrop(t, x.l, at, x.l, api.ErrNone)
			wantGet(t, x.l, at, api.Row{}, false)
		}
	}
	wantDrop(t, []api.Leaf{run(1, 3)}, berth(0, 0), holed([]api.Leaf{run(1, 3)}, berth(0, 0)), api.OK)
	wantDrop(t, []api.Leaf{run(1, 3)}, berth(0, 2), []api.Leaf{run(1, 2)}, api.OK)
	wantDrop(t, holed([]api.Leaf{run(1, 4)}, berth(0, 1), berth(0, 2)), berth(0, 3), []api.Leaf{run(1, 1)}, api.OK)
	wantDrop(t, []api.Leaf{plain(), made([]int{1, 2, 3, 4}, text(of(1)))}, berth(1, 0), []api.Leaf{plain(), made([]int{1, 2, 3, 4})}, api.OK)
	wantDrop(t, []api.Leaf{wide(64, 1, 1)}, berth(0, 63), blank(1), api.OK)
}

// others are all rows but those in one berth or of one key, with their berths.
func others(l []api.Leaf, at api.Berth, key float64) []standing {
	all, _ := slowAll(l)
	return slices.DeleteFunc(all, func(s standing) bool { return s.at == at || slowKey(s.r.Key) == slowKey(key) })
}

// wantOthers holds that what was done in one berth to one key leaves all other rows where they were, by Find, Get and Rows.
func wantOthers(t *testing.T, name string, l, next []api.Leaf, at api.Berth, key float64) {
	t.Helper()
	rows := map[uint64]api.Row{}
	for _, r := range Rows(next, math.Inf(-1), math.NaN()) {
		rows[slowKey(r.Key)] = r
	}
	for _, s := range others(l, at, key) {
		wantFind(t, next, s.r.Key, s.r, s.at, true)
		wantGet(t, next, s.at, s.r, true)
		if r, ok := rows[slowKey(s.r.Key)]; slowKey(s.r.Key) != theNaN && (!ok || !alike(r, s.r)) {
			t.Fatalf("%s: of %s Rows tells %v, not %v", name, brief(next), r, s.r)
		}
	}
}

// Hp3: what is done to one key leaves all others: what all calls tell, one behind the other, till the leaves are as they were.
func TestOthersStay(t *testing.T) {
	for _, s := range goodLeaves() {
		if len(s.l) > 3 {
			continue
		}
		for _, r := range goodRows() {
			got := put(s.l, r, nil)
			if got.e != api.OK {
				continue
			}
			wantOthers(t, "Put", s.l, got.l, got.at, r.Key)
			wantFind(t, got.l, r.Key, r, got.at, true)
			for _, x := range strangers(r.Key)[:8] {
				wantFind(t, set(got.l, got.at, x, nil).l, r.Key, r, got.at, true)
				wantFind(t, laid(got.l, got.at, x).l, r.Key, r, got.at, true)
			}
			turned := by(of(r.Key, 1, 2, 3, 4), 8)
			after := set(got.l, got.at, turned, nil)
			wantOthers(t, "Set", got.l, after.l, got.at, r.Key)
			wantFind(t, after.l, r.Key, turned, got.at, true)
			back := laid(after.l, got.at, r)
			wantOthers(t, "Lay", after.l, back.l, got.at, r.Key)
			wantFind(t, back.l, r.Key, r, got.at, true)
			gone := drop(back.l, got.at)
			wantOthers(t, "Drop", back.l, gone.l, got.at, r.Key)
			wantFind(t, gone.l, r.Key, api.Row{}, api.Berth{}, false)
			for n := range s.l {
				if !slices.EqualFunc(gone.l[n].Slots, s.l[n].Slots, bytes.Equal) {
					t.Fatalf("what was put and dropped leaves %s, not %s", brief(gone.l), brief(s.l))
				}
			}
		}
	}
}

// strewnRow is a row of a few keys, mostly one that may be.
func strewnRow(r *rand.Rand) api.Row {
	keys := append(edges(), 3, 4, 5, 6, 7, 8, 9, 10, 11, 12, 13, 14)
	x := api.Row{Key: keys[r.IntN(len(keys))], Writer: 1 + r.IntN(7)}
	for range r.IntN(5) {
		x.Cols = append(x.Cols, append(edges(), ofBits(minusNo))[r.IntN(15)])
	}
	if r.IntN(2) == 0 {
		x.Roll = api.Roll{Cell: 1 + r.IntN(65535), No: r.IntN(most)}
	}
	if r.IntN(5) == 0 {
		x.Dead, x.Cols = true, nil
	}
	switch r.IntN(40) {
	case 0:
		x.Writer = 0
	case 1:
		x.Key = ofBits(minusNo)
	case 2:
		x.Cols = make([]float64, 5)
	case 3:
		x.Roll = api.Roll{No: 1}
	}
	return x
}

func strewnLive(r *rand.Rand) []int {
	live := r.Perm(9)
	if r.IntN(3) > 0 {
		live = live[:r.IntN(9)]
	}
	return live
}

// strewnBerth is one of leaves, mostly one where a row stands.
func strewnBerth(r *rand.Rand, l []api.Leaf) api.Berth {
	if all, _ := slowAll(l); len(all) > 0 && r.IntN(4) > 0 {
		return all[r.IntN(len(all))].at
	}
	return berth(r.IntN(len(l)+2)-1, r.IntN(12)-1)
}

// keyIn is the key of the row in a berth, or another one, if none stands there.
func keyIn(l []api.Leaf, at api.Berth, other float64) float64 {
	if there, ok := slowGet(l, at); ok {
		return there.Key
	}
	return other
}

// Hp1, Hp2, Hp3: strewn calls, one behind the other, are held against the chapter's words.
func TestStrewnCalls(t *testing.T) {
	r := rand.New(rand.NewPCG(15, 1))
	seen := map[string]int{}
	for round := range 120 {
		l := blank(1 + round%3)
		for range 120 {
			x, at, live := strewnRow(r), strewnBerth(r, l), strewnLive(r)
			if r.IntN(2) == 0 {
				x.Key = [3]float64{0, 3, 1000}[r.IntN(3)] + float64(r.IntN(30))
			}
			call := r.IntN(7)
			if call > 2 && r.IntN(5) > 0 {
				x.Key = keyIn(l, at, x.Key)
			}
			var name string
			var got, must told
			switch call {
			case 0, 1, 2:
				name, got, must = "Put", put(l, x, live), slowPut(l, x, live)
				at = got.at
			case 3, 4:
				name, got, must = "Set", set(l, at, x, live), slowSet(l, at, x, live)
			case 5:
				name, got, must = "Lay", laid(l, at, x), slowLay(l, at, x)
			case 6:
				name, got, must = "Drop", drop(l, at), slowDrop(l, at)
			}
			want(t, fmt.Sprintf("%s %v, %v, %v", name, at, x, live), l, got, must)
			seen[fmt.Sprint(name, got.e)]++
			if got.e == api.OK && name != "Drop" {
				wantFind(t, got.l, x.Key, x, at, true)
			}
			l = got.l
		}
		wantAsked(t, l)
	}
	for _, k := range []string{"Put0", "Put1", "Put7", "Put8", "Set0", "Set1", "Set3", "Set8", "Lay0", "Lay1", "Lay3", "Drop0", "Drop3"} {
		if seen[k] < 50 {
			t.Errorf("%s was told %d times: too few to tell (%v)", k, seen[k], seen)
		}
	}
}

// strewnLeaves are leaves put together by hand, that may be or not.
func strewnLeaves(r *rand.Rand) []api.Leaf {
	l := []api.Leaf{}
	keys := r.Perm(40)
	for range 1 + r.IntN(3) {
		x := api.Leaf{Itl: []int{0, 0, 0, 0}}
		for i := range x.Itl {
			x.Itl[i] = r.IntN(2) * (i + 1 + r.IntN(2)*4)
		}
		for range r.IntN(11) {
			row := strewnRow(r)
			if r.IntN(20) > 0 {
				row.Key, keys = float64(keys[0]), keys[1:]
			}
			b := text(row)
			switch r.IntN(60) {
			case 0:
				b = b[:r.IntN(52)]
			case 1:
				b[r.IntN(52)]++
			}
			if r.IntN(5) == 0 {
				b = nil
			}
			x.Slots = append(x.Slots, b)
		}
		for range r.IntN(2) * r.IntN(50) {
			x.Slots = slices.Insert(x.Slots, 0, nil)
		}
		if n := len(x.Slots); n > 0 && len(x.Slots[n-1]) == 0 && r.IntN(20) > 0 {
			x.Slots = append(x.Slots, text(of(float64(keys[0]))))
			keys = keys[1:]
		}
		l = append(l, x)
	}
	return l
}

// Hp1, Hp2: strewn leaves, that may be or not, are held against the chapter's words.
func TestStrewnLeaves(t *testing.T) {
	r := rand.New(rand.NewPCG(15, 2))
	is, none := 0, 0
	for range 1200 {
		l := strewnLeaves(r)
		if slowCheck(l) {
			is++
		} else {
			none++
		}
		wantAsked(t, l)
		for range 4 {
			x, at, live := strewnRow(r), strewnBerth(r, l), strewnLive(r)
			want(t, fmt.Sprintf("Put %v, %v", x, live), l, put(l, x, live), slowPut(l, x, live))
			if r.IntN(3) > 0 {
				x.Key = keyIn(l, at, x.Key)
			}
			want(t, fmt.Sprintf("Set %v, %v, %v", at, x, live), l, set(l, at, x, live), slowSet(l, at, x, live))
			want(t, fmt.Sprintf("Lay %v, %v", at, x), l, laid(l, at, x), slowLay(l, at, x))
			want(t, fmt.Sprintf("Drop %v", at), l, drop(l, at), slowDrop(l, at))
		}
	}
	if is < 300 || none < 300 {
		t.Errorf("%d of leaves, %d of none: too few to tell", is, none)
	}
}

// turn is a call that turns something, and what it must tell by the chapter's words.
type turn struct {
	name string
	do   func(l []api.Leaf, r api.Row, live []int) told
	slow func(l []api.Leaf, r api.Row, live []int) told
}

func turns() []turn {
	x := []turn{{"Put", put, slowPut}}
	for _, at := range []api.Berth{{}, berth(0, 1), berth(0, 2), berth(1, 0), berth(2, 3), berth(-1, 0)} {
		x = append(x,
			turn{fmt.Sprintf("Set %v", at),
				func(l []api.Leaf, r api.Row, live []int) told { return set(l, at, r, live) },
				func(l []api.Leaf, r api.Row, live []int) told { return slowSet(l, at, r, live) }},
			turn{fmt.Sprintf("Lay %v", at),
				func(l []api.Leaf, r api.Row, live []int) told { return laid(l, at, r) },
				func(l []api.Leaf, r api.Row, live []int) told { return slowLay(l, at, r) }},
			turn{fmt.Sprintf("Drop %v", at),
				func(l []api.Leaf, r api.Row, live []int) told { return drop(l, at) },
				func(l []api.Leaf, r api.Row, live []int) told { return slowDrop(l, at) }})
	}
	return x
}

// Hp2: all rows of three calls out of a few, from a leaf on that is nearly full, are held against the chapter's words.
func TestSmallCalls(t *testing.T) {
	calls := turns()[:13]
	rows := []api.Row{of(1, 5), by(of(1, 6, 7), 2), by(of(2), 3), {Key: 3, Dead: true, Writer: 4}}
	var go3 func(l []api.Leaf, left int)
	n := 0
	go3 = func(l []api.Leaf, left int) {
		if left == 0 {
			return
		}
		for _, c := range calls {
			for _, r := range rows {
				got := c.do(l, r, []int{1, 2, 3})
				want(t, fmt.Sprint(c.name, r), l, got, c.slow(l, r, []int{1, 2, 3}))
				n++
				if got.e == api.OK {
					go3(got.l, left-1)
				}
			}
		}
	}
	go3([]api.Leaf{made([]int{1, 2, 0, 0}, text(of(10)), text(of(1))), plain()}, 3)
	start := run(20, 8)
	start.Itl = []int{1, 2, 3, 9}
	go3([]api.Leaf{start, plain()}, 3)
	if n < 10000 {
		t.Errorf("%d calls: too few to tell", n)
	}
}

// spoil writes over leaves, their lists, their rows' bytes, and the spare room of all of them.
func spoil(l []api.Leaf) {
	l = l[:cap(l)]
	for n := range l {
		itl, slots := l[n].Itl[:cap(l[n].Itl)], l[n].Slots[:cap(l[n].Slots)]
		for i := range itl {
			itl[i] = -7
		}
		for i := range slots {
			b := slots[i][:cap(slots[i])]
			for j := range b {
				b[j] = 0xEE
			}
			slots[i] = []byte{7}
		}
		l[n] = api.Leaf{Itl: []int{-7}}
	}
}

func spoilRows(l []api.Row) {
	l = l[:cap(l)]
	for i := range l {
		spoilNumbers(l[i].Cols)
		l[i] = of(-777)
	}
}

func spoilNumbers(cols []float64) {
	cols = cols[:cap(cols)]
	for i := range cols {
		cols[i] = -777
	}
}

// roomy is leaves with something behind them, and behind each of their lists.
func roomy(l []api.Leaf) []api.Leaf {
	room := []api.Leaf{}
	for _, x := range clone(l) {
		x.Itl = append(x.Itl, 31, 32)[:len(x.Itl)]
		for i, s := range x.Slots {
			x.Slots[i] = append(s, 33, 34, 35)[:len(s)]
		}
		x.Slots = append(x.Slots, text(of(36)), []byte{37})[:len(x.Slots)]
		room = append(room, x)
	}
	return append(room, run(38, 2), plain())[:len(l)]
}

// bare is all that leaves have, with what lies behind each list, as one list.
func bare(l []api.Leaf) []int {
	all := []int{len(l)}
	for _, x := range l[:cap(l)] {
		all = append(all, -1, len(x.Itl), len(x.Slots))
		all = append(all, x.Itl[:cap(x.Itl)]...)
		for _, s := range x.Slots[:cap(x.Slots)] {
			all = append(all, -2, len(s))
			for _, c := range s[:cap(s)] {
				all = append(all, int(c))
			}
		}
	}
	return all
}

// keepers are leaves, good and bad, with rows and empty slots.
func keepers() [][]api.Leaf {
	return [][]api.Leaf{
		nil, blank(1), full(1), full(3), {run(1, 3)}, holed([]api.Leaf{run(1, 4), run(10, 3)}, berth(0, 1), berth(1, 0)),
		joined(full(2), 0, 1, 2, 3, 4), joined(holed(full(3), berth(1, 2)), 1, 1, 2, 3, 4), {plain(of(1), of(1))}, {made(nil)},
		{plain(of(1, 2), of(3)), made(nobody(), text(of(5))[:20])},
	}
}

// R3: what is handed in to the calls that turn something is left, with what lies behind it, and what is told shares nothing with it or with another answer, beside an error too.
func TestTurnsLeave(t *testing.T) {
	rows := append(goodRows(), of(1, 8, 9), by(of(2, 8), 5), by(of(-50, 1, 2), 0), of(ofBits(minusNo), 3, 4))
	for _, l := range keepers() {
		for _, x := range turns() {
			for _, r := range rows {
				live := []int{1, 2, 3, 4, 77}
				must := x.slow(l, r, live[:4])
				given, cols := roomy(l), append(slices.Clone(r.Cols), 31, 32, 33)
				was := bare(given)
				row := r
				row.Cols = cols[:len(r.Cols)]
				one, two := x.do(given, row, live[:4]), x.do(given, row, live[:4])
				spoil(one.l)
				if !slices.Equal(bare(given), was) || !slices.Equal(live, []int{1, 2, 3, 4, 77}) {
					t.Fatalf("%s, %v has changed what it was given: %s, %v", x.name, r, brief(given), live)
				}
				if !slices.Equal(bitsOf(cols), bitsOf(append(slices.Clone(r.Cols), 31, 32, 33))) {
					t.Fatalf("%s, %v has changed the columns that it was given: %v", x.name, r, cols)
				}
				spoil(given)
				spoilNumbers(cols)
				clear(live)
				want(t, x.name+" with memory of its own", l, two, must)
			}
		}
	}
}

// R3: what only asks leaves what is handed in, with what lies behind it, and what is told shares nothing with it or with another answer.
func TestAsksLeave(t *testing.T) {
	for _, l := range append(keepers(), []api.Leaf{plain(of(1, 2, 3), of(4, 5, 6, 7, 8), of(9, 1))}) {
		for _, key := range []float64{1, 2, 4, 9} {
			for _, at := range []api.Berth{{}, berth(0, 1), berth(1, 1)} {
				given := roomy(l)
				was := bare(given)
				Check(given)
				a, _, _ := Find(given, key)
				b, where, found := Find(given, key)
				c, _ := Get(given, at)
				d, got := Get(given, at)
				one, two := Rows(given, 0, 9), Rows(given, 0, 9)
				spoilRows([]api.Row{a, c})
				spoilRows(one)
				if !slices.Equal(bare(given), was) {
					t.Fatalf("%s has changed to %s", brief(l), brief(given))
				}
				spoil(given)
				if must, w, ok := slowFind(l, key); !alike(b, must) || where != w || found != ok {
					t.Errorf("Find %v has changed to %v with other memory", key, b)
				}
				if must, ok := slowGet(l, at); !alike(d, must) || got != ok {
					t.Errorf("Get %v has changed to %v with other memory", at, d)
				}
				if must := slowRows(l, 0, 9); !allAlike(two, must) {
					t.Errorf("Rows has changed to %v with other memory", two)
				}
			}
		}
	}
}

// apart holds that no two lists of leaves share memory, their spare room among it.
func apart(t *testing.T, name string, l []api.Leaf) {
	t.Helper()
	must := clone(l)
	for n := range l {
		itl := l[n].Itl[:cap(l[n].Itl)]
		for i := range itl {
			itl[i] = -7
		}
		for m := range l {
			if m > n && !leavesAlike(l[m:m+1], must[m:m+1]) {
				t.Fatalf("%s: the writers of leaf %d are shared by leaf %d", name, n, m)
			}
		}
		slots := l[n].Slots
		for i := range slots {
			b := slots[i][:cap(slots[i])]
			for j := range b {
				b[j] = 0xEE
			}
			for k := i + 1; k < len(slots); k++ {
				if !bytes.Equal(slots[k], must[n].Slots[k]) {
					t.Fatalf("%s: slot %d of leaf %d is shared by slot %d", name, i, n, k)
				}
			}
		}
		for i := range slots[:cap(slots)] {
			slots[:cap(slots)][i] = []byte{9}
		}
		for m := n + 1; m < len(l); m++ {
			if !leavesAlike(l[m:m+1], must[m:m+1]) {
				t.Fatalf("%s: the slots of leaf %d are shared by leaf %d", name, n, m)
			}
		}
	}
}

// R3: no two lists of one answer share memory, though those that were handed in do: writers, slots, and bytes that lie one behind the other.
func TestSharedLists(t *testing.T) {
	given := func() []api.Leaf {
		itl := []int{1, 0, 0, 0}
		bytes := slices.Concat(text(of(1)), text(of(2)), text(of(3)), text(of(4)))
		slots := [][]byte{bytes[:52], bytes[52:52], bytes[52:104], bytes[104:156], bytes[156:156], bytes[156:]}
		return []api.Leaf{{Itl: itl, Slots: slots[:3]}, {Itl: itl, Slots: slots[3:]}, {Itl: itl, Slots: slots[:0]}, {Itl: itl}}
	}
	for _, x := range turns() {
		for _, r := range []api.Row{of(5, 1), of(1, 2), of(4, 9), {}} {
			l := given()
			apart(t, fmt.Sprint(x.name, r), x.do(l, r, nil).l)
			if !leavesAlike(l, given()) {
				t.Fatalf("%s, %v: the answer shares memory with what was handed in", x.name, r)
			}
		}
	}
	rows := Rows([]api.Leaf{plain(of(1, 2), of(2, 3, 4), of(3, 4, 5, 6)), plain(of(0, 1, 2, 3, 4))}, -1, 9)
	for i := range rows {
		must := slices.Clone(rows[i].Cols)
		for j := range i {
			spoilNumbers(rows[j].Cols)
		}
		if len(must) != []int{4, 1, 2, 3}[i] || !slices.Equal(rows[i].Cols, must) {
			t.Errorf("the columns of row %d are shared by one ahead of it: %v", i, rows[i].Cols)
		}
	}
}

// R4: asked again, behind an error too, the same is told.
func TestAgain(t *testing.T) {
	for _, s := range goodLeaves() {
		for _, x := range turns() {
			for _, r := range []api.Row{of(-50, 1), of(3), {}} {
				one := x.do(s.l, r, []int{1, 2})
				want(t, x.name+" of nothing", nil, x.do(nil, r, nil), told{e: api.ErrArg})
				want(t, x.name+" again", s.l, x.do(s.l, r, []int{1, 2}), one)
			}
		}
	}
}
