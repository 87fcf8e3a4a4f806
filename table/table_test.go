package table

import (
	"bytes"
	"encoding/binary"
	"fmt"
	"math"
	"math/rand/v2"
	"slices"
	"strings"
	"testing"

	"humus/api"
)

const most = 1<<31 - 1

// of is a table with these entries first, and free ones behind them.
func of(nextTx, nextNo, commits int, l ...api.Entry) api.Table {
	t := api.Table{NextTx: nextTx, NextNo: nextNo, Commits: commits, Entries: make([]api.Entry, 12)}
	copy(t.Entries, l)
	return t
}

func free() api.Entry               { return api.Entry{} }
func active(tx, last int) api.Entry { return api.Entry{Tx: tx, State: 1, Last: last} }
func done(tx, last, commit int) api.Entry {
	return api.Entry{Tx: tx, State: 2, Last: last, Commit: commit}
}
func clone(t api.Table) api.Table { t.Entries = slices.Clone(t.Entries); return t }
func first() api.Table            { return of(1, 1, 0) }
func with(t api.Table, i int, e api.Entry) api.Table {
	t = clone(t)
	t.Entries[i] = e
	return t
}

// alike goes by the parts, one after the other: what is told must not hang on Same.
func alike(a, b api.Table) bool {
	if a.NextTx != b.NextTx || a.NextNo != b.NextNo || a.Commits != b.Commits || len(a.Entries) != len(b.Entries) {
		return false
	}
	for i, e := range a.Entries {
		o := b.Entries[i]
		if e.Tx != o.Tx || e.State != o.State || e.Last != o.Last || e.Commit != o.Commit {
			return false
		}
	}
	return true
}

// slowCheck tells by the chapter's words whether a table may be.
func slowCheck(t api.Table) bool {
	good := 1 <= t.NextTx && t.NextTx <= most && 1 <= t.NextNo && t.NextNo <= most && 0 <= t.Commits && t.Commits <= most && len(t.Entries) == 12
	txs, commits := map[int]int{}, map[int]int{}
	for _, e := range t.Entries {
		switch e.State {
		case 0:
			good = good && e.Tx == 0 && e.Last == 0 && e.Commit == 0
			continue
		case 1:
			good = good && e.Commit == 0
		case 2:
			good = good && 1 <= e.Commit && e.Commit <= t.Commits
			commits[e.Commit]++
			good = good && commits[e.Commit] == 1
		default:
			return false
		}
		txs[e.Tx]++
		good = good && 1 <= e.Tx && e.Tx <= t.NextTx-1 && txs[e.Tx] == 1 && 0 <= e.Last && e.Last <= 65535
	}
	return good
}

// slowSum goes by layer 2's words, bit by bit.
func slowSum(b []byte) uint32 {
	register := ^uint32(0)
	for _, c := range b {
		for bit := 7; bit >= 0; bit-- {
			out := register >> 31
			register <<= 1
			if out != uint32(c)>>bit&1 {
				register ^= 0x814141AB
			}
		}
	}
	return register
}

// sealed is a page of these bytes, with noughts behind them, and their sum.
func sealed(b []byte) []byte {
	whole := make([]byte, 508)
	if copy(whole, b) < len(b) {
		panic("too long for a page")
	}
	return append(binary.BigEndian.AppendUint32(nil, slowSum(whole)), whole...)
}

// anew is a page that has its sum again.
func anew(page []byte) []byte { return sealed(page[4:]) }

// textOf goes by the chapter's words; the table need not be one that may be.
func textOf(t api.Table) []byte {
	b := []byte{84}
	for _, n := range []int{t.NextTx, t.NextNo, t.Commits} {
		b = binary.BigEndian.AppendUint32(b, uint32(n))
	}
	for _, e := range t.Entries {
		b = append(b, byte(e.State))
		b = binary.BigEndian.AppendUint32(b, uint32(e.Tx))
		b = binary.BigEndian.AppendUint16(b, uint16(e.Last))
		b = binary.BigEndian.AppendUint32(b, uint32(e.Commit))
	}
	return b
}

func slowPage(t api.Table) []byte { return sealed(textOf(t)) }

// slowDecode reads each part at its fixed place, and believes the table if it may be, and has just this page.
func slowDecode(b []byte) (api.Table, api.Errno) {
	if len(b) != 512 {
		return api.Table{}, api.ErrArg
	}
	if bytes.Equal(b, make([]byte, 512)) {
		return first(), api.OK
	}
	if slowSum(b[4:]) != binary.BigEndian.Uint32(b) {
		return api.Table{}, api.ErrSum
	}
	four := func(at int) int { return int(binary.BigEndian.Uint32(b[at:])) }
	t := of(four(5), four(9), four(13))
	for i := range t.Entries {
		at := 17 + 11*i
		t.Entries[i] = api.Entry{State: int(b[at]), Tx: four(at + 1), Last: int(binary.BigEndian.Uint16(b[at+5:])), Commit: four(at + 7)}
	}
	if !slowCheck(t) || !bytes.Equal(slowPage(t), b) {
		return api.Table{}, api.ErrText
	}
	return t, api.OK
}

// places are the entries of tx, by the chapter's words.
func places(t api.Table, tx int) []int {
	l := []int{}
	for i, e := range t.Entries {
		if e.State != 0 && e.Tx == tx {
			l = append(l, i)
		}
	}
	return l
}

func slowFind(t api.Table, tx int) int {
	if l := places(t, tx); slowCheck(t) && len(l) == 1 {
		return l[0]
	}
	return -1
}

// told is what one of the calls tells: a table, a number, and an error.
type told struct {
	t api.Table
	n int
	e api.Errno
}

func slowEnter(t api.Table, tx int) told {
	if !slowCheck(t) {
		return told{n: -1, e: api.ErrArg}
	}
	if tx < 1 || tx > most-1 {
		return told{clone(t), -1, api.ErrArg}
	}
	if len(places(t, tx)) > 0 {
		return told{clone(t), -1, api.ErrOp}
	}
	for i, e := range t.Entries {
		if e.State == 0 {
			next := with(t, i, active(tx, 0))
			for next.NextTx <= tx {
				next.NextTx = tx + 1
			}
			return told{next, i, api.OK}
		}
	}
	return told{clone(t), -1, api.ErrSlot}
}

func slowWrite(t api.Table, tx, cell int) told {
	if !slowCheck(t) {
		return told{e: api.ErrArg}
	}
	at := slowFind(t, tx)
	if at < 0 {
		return told{clone(t), 0, api.ErrNone}
	}
	if t.Entries[at].State == 2 || t.NextNo == most {
		return told{clone(t), 0, api.ErrOp}
	}
	if cell < 0 || cell > 65535 {
		return told{clone(t), 0, api.ErrArg}
	}
	next := with(t, at, active(tx, cell))
	next.NextNo = t.NextNo + 1
	return told{next, 0, api.OK}
}

func slowCommit(t api.Table, tx int) told {
	if !slowCheck(t) {
		return told{e: api.ErrArg}
	}
	at := slowFind(t, tx)
	if at < 0 {
		return told{clone(t), 0, api.ErrNone}
	}
	if t.Entries[at].State == 2 || t.Commits == most {
		return told{clone(t), 0, api.ErrOp}
	}
	next := with(t, at, done(tx, t.Entries[at].Last, t.Commits+1))
	next.Commits = t.Commits + 1
	return told{next, t.Commits + 1, api.OK}
}

func slowLeave(t api.Table, tx int) told {
	if !slowCheck(t) {
		return told{e: api.ErrArg}
	}
	at := slowFind(t, tx)
	if at < 0 {
		return told{clone(t), 0, api.ErrNone}
	}
	return told{with(t, at, free()), 0, api.OK}
}

func slowLive(t api.Table) []int {
	l := []int{}
	for _, e := range t.Entries {
		if e.State == 1 && slowCheck(t) {
			l = append(l, e.Tx)
		}
	}
	return l
}

func slowEldest(t api.Table) int {
	l := slices.Clone(t.Entries)
	l = slices.DeleteFunc(l, func(e api.Entry) bool { return e.State != 2 })
	slices.SortFunc(l, func(a, b api.Entry) int { return a.Commit - b.Commit })
	if !slowCheck(t) || len(l) == 0 {
		return 0
	}
	return l[0].Tx
}

func enter(t api.Table, tx int) told       { x, n, e := Enter(t, tx); return told{x, n, e} }
func write(t api.Table, tx, cell int) told { x, e := Write(t, tx, cell); return told{x, 0, e} }
func commit(t api.Table, tx int) told      { x, n, e := Commit(t, tx); return told{x, n, e} }
func leave(t api.Table, tx int) told       { x, e := Leave(t, tx); return told{x, 0, e} }

// act is a call with what it is given, and what it must tell by the chapter's words.
type act struct {
	name string
	do   func(t api.Table) told
	slow func(t api.Table) told
}

// acts are all calls that tell a table, of these transactions and cells.
func acts(txs, cells []int) []act {
	var l []act
	for _, tx := range txs {
		l = append(l,
			act{fmt.Sprintf("Enter %d", tx), func(t api.Table) told { return enter(t, tx) }, func(t api.Table) told { return slowEnter(t, tx) }},
			act{fmt.Sprintf("Commit %d", tx), func(t api.Table) told { return commit(t, tx) }, func(t api.Table) told { return slowCommit(t, tx) }},
			act{fmt.Sprintf("Leave %d", tx), func(t api.Table) told { return leave(t, tx) }, func(t api.Table) told { return slowLeave(t, tx) }})
		for _, c := range cells {
			l = append(l, act{fmt.Sprintf("Write %d %d", tx, c), func(t api.Table) told { return write(t, tx, c) }, func(t api.Table) told { return slowWrite(t, tx, c) }})
		}
	}
	return l
}

// want holds what a call tells against what it must.
func want(t *testing.T, name string, x api.Table, got, must told) {
	t.Helper()
	if !alike(got.t, must.t) || got.n != must.n || got.e != must.e {
		t.Fatalf("%s of %v = %v, %d, error %d, not %v, %d, %d", name, x, got.t, got.n, got.e, must.t, must.n, must.e)
	}
}

func wantEnter(t *testing.T, x api.Table, tx int, next api.Table, at int, why api.Errno) {
	t.Helper()
	want(t, fmt.Sprintf("Enter %d", tx), x, enter(x, tx), told{next, at, why})
	want(t, fmt.Sprintf("Enter %d by the words", tx), x, slowEnter(x, tx), told{next, at, why})
}

func wantWrite(t *testing.T, x api.Table, tx, cell int, next api.Table, why api.Errno) {
	t.Helper()
	want(t, fmt.Sprintf("Write %d %d", tx, cell), x, write(x, tx, cell), told{next, 0, why})
	want(t, fmt.Sprintf("Write %d %d by the words", tx, cell), x, slowWrite(x, tx, cell), told{next, 0, why})
}

func wantCommit(t *testing.T, x api.Table, tx int, next api.Table, n int, why api.Errno) {
	t.Helper()
	want(t, fmt.Sprintf("Commit %d", tx), x, commit(x, tx), told{next, n, why})
	want(t, fmt.Sprintf("Commit %d by the words", tx), x, slowCommit(x, tx), told{next, n, why})
}

func wantLeave(t *testing.T, x api.Table, tx int, next api.Table, why api.Errno) {
	t.Helper()
	want(t, fmt.Sprintf("Leave %d", tx), x, leave(x, tx), told{next, 0, why})
	want(t, fmt.Sprintf("Leave %d by the words", tx), x, slowLeave(x, tx), told{next, 0, why})
}

func wantEncode(t *testing.T, x api.Table, page []byte, why api.Errno) {
	t.Helper()
	if b, e := Encode(x); !bytes.Equal(b, page) || e != why {
		t.Fatalf("Encode(%v) = %X, error %d, not %X, %d", x, b, e, page, why)
	}
}

func wantDecode(t *testing.T, b []byte, x api.Table, why api.Errno) {
	t.Helper()
	if y, e := slowDecode(b); !alike(y, x) || e != why {
		t.Fatalf("by the words %X are %v, error %d, not %v, %d", b, y, e, x, why)
	}
	wantByWords(t, b)
}

// wantByWords holds Decode against the chapter's words, and tells what it is by them.
func wantByWords(t *testing.T, b []byte) api.Errno {
	t.Helper()
	x, why := slowDecode(b)
	if y, e := Decode(b); !alike(y, x) || e != why {
		t.Fatalf("Decode(%X) = %v, error %d, not %v, %d", b, y, e, x, why)
	}
	return why
}

// wantAsked holds what only asks a table against the chapter's words.
func wantAsked(t *testing.T, x api.Table, txs []int) {
	t.Helper()
	if e := Check(x); (e == api.OK) != slowCheck(x) || e != api.OK && e != api.ErrArg {
		t.Fatalf("Check(%v) = %d", x, e)
	}
	if l := Live(x); !slices.Equal(l, slowLive(x)) {
		t.Fatalf("Live(%v) = %v", x, l)
	}
	if tx := Eldest(x); tx != slowEldest(x) {
		t.Fatalf("Eldest(%v) = %d", x, tx)
	}
	for _, tx := range txs {
		if at := Find(x, tx); at != slowFind(x, tx) {
			t.Fatalf("Find(%v, %d) = %d", x, tx, at)
		}
	}
}

// sample is a table with a name.
type sample struct {
	name string
	t    api.Table
}

// mixed is a table of entries of all states, with free ones ahead of, between and behind them.
func mixed() api.Table {
	return of(100, 50, 9, free(), active(5, 3), done(7, 0, 9), free(), active(99, 65535), done(1, 65535, 1), done(50, 8, 4), active(2, 0))
}

// twelve is a table of as many entries as there can be, every third of them committed.
func twelve() api.Table {
	t := of(13, 7, 4)
	for i := range t.Entries {
		t.Entries[i] = active(i+1, 10*i)
		if i%3 == 2 {
			t.Entries[i] = done(i+1, 10*i, 4-i/3)
		}
	}
	return t
}

// allOf is a table of twelve entries of one state, at the edges of their parts.
func allOf(state int) api.Table {
	t := of(most, most, most)
	for i := range t.Entries {
		t.Entries[i] = active(most-12+i, 65535)
		if state == 2 {
			t.Entries[i] = done(most-12+i, 65535, most-i)
		}
	}
	return t
}

// goodTables are tables at the edges of what may be.
func goodTables() []sample {
	l := []sample{
		{"the first", first()},
		{"NextTx at its greatest", of(most, 1, 0)},
		{"NextNo at its greatest", of(1, most, 0)},
		{"Commits at their greatest", of(1, 1, most)},
		{"all at their greatest", of(most, most, most)},
		{"one that writes, the least", of(2, 1, 0, active(1, 0))},
		{"one that writes, the greatest", of(most, most, most, active(most-1, 65535))},
		{"one that is done, the least", of(2, 1, 1, done(1, 0, 1))},
		{"one that is done, the greatest", of(most, most, most, done(most-1, 65535, most))},
		{"a commit below Commits", of(3, 2, 5, done(2, 1, 1), done(1, 1, 4))},
		{"the same Last twice", of(9, 9, 2, active(3, 7), active(4, 7), done(5, 7, 1), done(6, 7, 2))},
		{"a Tx as another's Commit", of(9, 9, 5, active(1, 0), done(2, 0, 1), done(5, 5, 5), done(3, 2, 2))},
		{"all states", mixed()},
		{"twelve", twelve()},
		{"twelve that write", allOf(1)},
		{"twelve that are done", allOf(2)},
	}
	for i := range 12 {
		l = append(l,
			sample{fmt.Sprintf("one that writes in %d", i), with(of(8, 3, 2), i, active(7, 6))},
			sample{fmt.Sprintf("one that is done in %d", i), with(of(8, 3, 2), i, done(7, 6, 2))},
			sample{fmt.Sprintf("twelve, but %d", i), with(twelve(), i, free())})
	}
	return l
}

// far are numbers that are far from all that may be, some of which would be near if bits fell off.
func far() []int {
	return []int{math.MaxInt, math.MinInt, math.MinInt + 1, 1 << 32, 1<<32 + 1, 1<<32 + 5, -1 << 32, 1<<40 + 2, -most}
}

// badEntries are entries that may not be in a table of NextTx 100 and Commits 9, each in one part.
func badEntries() []api.Entry {
	var l []api.Entry
	for _, n := range append(far(), -1, 1) {
		l = append(l, api.Entry{Tx: n}, api.Entry{Last: n}, api.Entry{Commit: n})
	}
	l = append(l, api.Entry{Tx: 30, Last: 4, Commit: 3}, api.Entry{Tx: 30, Commit: 3}, api.Entry{Tx: 30, Last: 4})
	for _, e := range []api.Entry{active(30, 4), done(30, 4, 3)} {
		change := func(part func(e *api.Entry)) {
			c := e
			part(&c)
			l = append(l, c)
		}
		for _, n := range append(far(), -1, -2, 3, 4, 127, 128, 255, 256, 257, 258, 511) {
			change(func(e *api.Entry) { e.State = n })
		}
		for _, n := range append(far(), 0, -1, -30, 100, 101, 1000, most, most+1) {
			change(func(e *api.Entry) { e.Tx = n })
		}
		for _, n := range append(far(), -1, -2, 65536, 65537, 131071, most) {
			change(func(e *api.Entry) { e.Last = n })
		}
		for _, n := range append(far(), -1, 10, 11, 100, most, most+1) {
			change(func(e *api.Entry) { e.Commit = n })
		}
	}
	for _, n := range []int{1, 2, 3, 8, 9} {
		l = append(l, api.Entry{Tx: 30, State: 1, Commit: n})
	}
	for _, s := range []int{-1, 1, 2, 3} {
		l = append(l, api.Entry{State: s})
	}
	return append(l, done(30, 0, 0))
}

// badTables are tables that may not be, each in one part.
func badTables() []sample {
	l := []sample{
		{"the zero one", api.Table{}},
		{"an active one of NextTx", of(5, 1, 0, active(5, 0))},
		{"a done one of NextTx", of(5, 1, 1, done(5, 0, 1))},
		{"an entry, and NextTx 1", of(1, 1, 0, active(1, 0))},
		{"a done one, and no commits", of(5, 1, 0, done(4, 0, 1))},
		{"a done one that has Commits and one more", of(5, 1, 3, done(4, 0, 4))},
		{"a Tx twice, active both", of(9, 1, 4, active(3, 0), active(3, 1))},
		{"a Tx twice, the same entry", of(9, 1, 4, active(3, 1), active(3, 1))},
		{"a Tx twice, done both", of(9, 1, 4, done(3, 0, 1), done(3, 0, 2))},
		{"a Tx twice, active and done", of(9, 1, 4, active(3, 0), done(3, 0, 2))},
		{"a Tx twice, done and active", of(9, 1, 4, done(3, 0, 2), active(3, 0))},
		{"a Tx twice, not side by side", of(9, 1, 4, active(3, 0), free(), active(4, 0), active(3, 0))},
		{"a Commit twice", of(9, 1, 4, done(3, 0, 2), done(4, 0, 2))},
		{"a Commit twice, not side by side", of(9, 1, 4, done(3, 0, 4), active(5, 0), free(), done(4, 0, 4))},
		{"a Tx twice at both ends", with(twelve(), 11, active(1, 0))},
		{"a Tx twice at the end", with(twelve(), 11, active(11, 0))},
		{"a Commit twice at the end", with(twelve(), 11, done(12, 0, 2))},
	}
	for _, n := range append(far(), 0, -1, most+1) {
		for _, t := range []api.Table{first(), mixed()} {
			x, y := clone(t), clone(t)
			x.NextTx, y.NextNo = n, n
			l = append(l, sample{fmt.Sprintf("NextTx %d", n), x}, sample{fmt.Sprintf("NextNo %d", n), y})
		}
	}
	for _, n := range append(far(), -1, -2, most+1) {
		for _, t := range []api.Table{first(), mixed()} {
			x := clone(t)
			x.Commits = n
			l = append(l, sample{fmt.Sprintf("Commits %d", n), x})
		}
	}
	for _, n := range []int{0, 1, 2, 10, 11, 13, 14, 24, 1000} {
		x, y := of(100, 50, 9), of(100, 50, 9)
		x.Entries = make([]api.Entry, n)
		y.Entries = append(slices.Clone(mixed().Entries), make([]api.Entry, 1000)...)[:n]
		l = append(l, sample{fmt.Sprintf("%d free entries", n), x}, sample{fmt.Sprintf("%d entries", n), y})
	}
	l = append(l, sample{"13 entries, the last one in use", api.Table{NextTx: 100, NextNo: 50, Commits: 9, Entries: append(mixed().Entries, active(20, 0))}})
	for i := range 12 {
		for _, e := range badEntries() {
			l = append(l,
				sample{fmt.Sprintf("%v alone in %d", e, i), with(of(100, 50, 9), i, e)},
				sample{fmt.Sprintf("%v in %d", e, i), with(mixed(), i, e)})
		}
	}
	return l
}

// The chapter's example: Enter 5, Commit 5: EntryDone, Commit 1, NextTx 6.
func TestExample(t *testing.T) {
	x, at, e := Enter(First(), 5)
	if e != api.OK || at != 0 {
		t.Fatalf("Enter 5: %d, error %d", at, e)
	}
	x, n, e := Commit(x, 5)
	if e != api.OK || n != 1 || x.Entries[0].State != api.EntryDone || x.Entries[0].Commit != 1 || x.NextTx != 6 {
		t.Errorf("Commit 5: %v, %d, error %d", x, n, e)
	}
	if !alike(x, of(6, 1, 1, done(5, 0, 1))) {
		t.Errorf("then there is %v", x)
	}
}

// Tb1: the first table's parts; it is a new one each time.
func TestFirst(t *testing.T) {
	x := First()
	if x.NextTx != 1 || x.NextNo != 1 || x.Commits != 0 || len(x.Entries) != 12 {
		t.Fatalf("First() = %v", x)
	}
	for i, e := range x.Entries {
		if e != (api.Entry{}) {
			t.Errorf("entry %d is %v", i, e)
		}
	}
	if e := Check(x); e != api.OK {
		t.Errorf("Check: error %d", e)
	}
	spoil(x)
	if y := First(); !alike(y, first()) {
		t.Errorf("with another one it has changed: %v", y)
	}
}

// Tb1: Check of tables that may be.
func TestCheckOfGood(t *testing.T) {
	for _, s := range goodTables() {
		if e := Check(s.t); e != api.OK || !slowCheck(s.t) {
			t.Errorf("%s: error %d", s.name, e)
		}
	}
}

// Tb1, Tb2, Tb3: of a table that may not be: ErrArg, the zero table, -1 and 0, and none; that comes ahead of all else that is wrong.
func TestBadTables(t *testing.T) {
	zero := api.Table{}
	for _, s := range badTables() {
		if e := Check(s.t); e != api.ErrArg || slowCheck(s.t) {
			t.Fatalf("%s: Check: error %d", s.name, e)
		}
		wantEncode(t, s.t, nil, api.ErrArg)
		if l, tx := Live(s.t), Eldest(s.t); len(l) != 0 || tx != 0 {
			t.Fatalf("%s: Live %v, Eldest %d", s.name, l, tx)
		}
		for _, tx := range []int{-1, 0, 1, 5, 7, 12, 30, 100, most, math.MaxInt, math.MinInt} {
			if at := Find(s.t, tx); at != -1 {
				t.Fatalf("%s: Find %d = %d", s.name, tx, at)
			}
			wantEnter(t, s.t, tx, zero, -1, api.ErrArg)
			wantCommit(t, s.t, tx, zero, 0, api.ErrArg)
			wantLeave(t, s.t, tx, zero, api.ErrArg)
			for _, cell := range []int{-1, 0, 65536} {
				wantWrite(t, s.t, tx, cell, zero, api.ErrArg)
			}
		}
	}
}

// Tb1: NextTx, NextNo and Commits at their edges, and just beyond.
func TestCheckOfNumbers(t *testing.T) {
	edges := []int{-1, 0, 1, 2, most - 1, most, most + 1}
	for _, tx := range edges {
		for _, no := range edges {
			for _, commits := range edges {
				is := tx >= 1 && tx <= most && no >= 1 && no <= most && commits >= 0 && commits <= most
				if e := Check(of(tx, no, commits)); (e == api.OK) != is {
					t.Errorf("NextTx %d, NextNo %d, Commits %d: error %d", tx, no, commits, e)
				}
			}
		}
	}
	for next := 1; next < 20; next++ {
		for tx := -1; tx < 22; tx++ {
			if e := Check(of(next, 1, 0, active(tx, 0))); (e == api.OK) != (tx >= 1 && tx < next) {
				t.Errorf("Tx %d, NextTx %d: error %d", tx, next, e)
			}
			if e := Check(of(50, 1, next, done(1, 0, tx))); (e == api.OK) != (tx >= 1 && tx <= next) {
				t.Errorf("Commit %d, Commits %d: error %d", tx, next, e)
			}
		}
	}
	for last := -3; last < 65540; last++ {
		is := last >= 0 && last <= 65535
		if e, f := Check(of(50, 1, 1, active(1, last))), Check(of(50, 1, 1, done(1, last, 1))); (e == api.OK) != is || (f == api.OK) != is {
			t.Errorf("Last %d: errors %d, %d", last, e, f)
		}
	}
}

// smallEntries are all entries of a few numbers.
func smallEntries(lasts ...int) []api.Entry {
	var l []api.Entry
	for state := -1; state <= 3; state++ {
		for tx := -1; tx <= 3; tx++ {
			for commit := -1; commit <= 3; commit++ {
				for _, last := range lasts {
					l = append(l, api.Entry{State: state, Tx: tx, Last: last, Commit: commit})
				}
			}
		}
	}
	return l
}

// Tb1, Tb2, Tb3: all tables of two entries of a few numbers, in some places, are held against the chapter's words.
func TestSmallTables(t *testing.T) {
	is, none := 0, 0
	for _, at := range [][2]int{{0, 1}, {11, 0}, {4, 9}} {
		for _, a := range smallEntries(-1, 0, 65535, 65536) {
			for _, b := range smallEntries(0) {
				x := of(3, 2, 2)
				x.Entries[at[0]], x.Entries[at[1]] = a, b
				wantAsked(t, x, []int{-1, 0, 1, 2, 3})
				if slowCheck(x) {
					is++
				} else {
					none++
				}
			}
		}
	}
	if is < 100 || none < 100000 {
		t.Errorf("%d tables that may be, %d that may not: too few to tell", is, none)
	}
}

// Tb1: pages to the byte: their sums, the byte 84, each number in its bytes, and the noughts behind.
func TestPages(t *testing.T) {
	const empty = "\x00\x00\x00\x00\x00\x00\x00\x00\x00\x00\x00"
	full := of(most, most, most)
	fullText := "\x7F\xFF\xFF\xFF\x7F\xFF\xFF\xFF\x7F\xFF\xFF\xFF"
	for i := range 11 {
		full.Entries[i] = done(most-1-i, 65535, most-i)
		fullText += "\x02\x7F\xFF\xFF" + string([]byte{byte(0xFE - i)}) + "\xFF\xFF\x7F\xFF\xFF" + string([]byte{byte(0xFF - i)})
	}
	full.Entries[11] = active(1, 65535)
	fullText += "\x01\x00\x00\x00\x01\xFF\xFF\x00\x00\x00\x00"
	each := of(0x01020304, 0x05060708, 0x090A0B0C, active(0x01020303, 0x0D0E), free(), done(0x00010203, 0x0F10, 0x090A0B0C))
	for _, c := range []struct {
		t         api.Table
		sum, text string
	}{
		{first(), "\x20\xD8\x5F\xE4", "\x00\x00\x00\x01\x00\x00\x00\x01\x00\x00\x00\x00" + strings.Repeat(empty, 12)},
		{of(6, 2, 1, done(5, 3, 1)), "\xD1\x61\xF1\xD5", "\x00\x00\x00\x06\x00\x00\x00\x02\x00\x00\x00\x01" +
			"\x02\x00\x00\x00\x05\x00\x03\x00\x00\x00\x01" + strings.Repeat(empty, 11)},
		{with(each, 11, done(7, 0, 0x01020304)), "\x6A\xF1\xF8\x77", "\x01\x02\x03\x04\x05\x06\x07\x08\x09\x0A\x0B\x0C" +
			"\x01\x01\x02\x03\x03\x0D\x0E\x00\x00\x00\x00" + empty + "\x02\x00\x01\x02\x03\x0F\x10\x09\x0A\x0B\x0C" +
			strings.Repeat(empty, 8) + "\x02\x00\x00\x00\x07\x00\x00\x01\x02\x03\x04"},
		{full, "\xC7\xFC\xDB\x46", fullText},
	} {
		page := c.sum + "T" + c.text + strings.Repeat("\x00", 363)
		if len(page) != 512 {
			t.Fatalf("the page has %d bytes", len(page))
		}
		wantEncode(t, c.t, []byte(page), api.OK)
		wantDecode(t, []byte(page), c.t, api.OK)
	}
}

// Tb1: a page by the chapter's words; Tb4: Decode of Encode is the table.
func TestEncodeAndBack(t *testing.T) {
	for _, s := range goodTables() {
		wantEncode(t, s.t, slowPage(s.t), api.OK)
		b, _ := Encode(s.t)
		wantDecode(t, b, s.t, api.OK)
		if x, e := Decode(b); e != api.OK || !Same(x, s.t) {
			t.Errorf("%s: %v, error %d", s.name, x, e)
		}
	}
}

// Tb1: other than 512 bytes, whatever they are; what lies behind a list's end is none of it.
func TestDecodeOfOtherLengths(t *testing.T) {
	zero := api.Table{}
	wantDecode(t, nil, zero, api.ErrArg)
	wantDecode(t, []byte{}, zero, api.ErrArg)
	for _, s := range goodTables() {
		long := append(slowPage(s.t), slowPage(s.t)...)
		for _, n := range []int{0, 1, 3, 4, 5, 145, 149, 508, 510, 511, 513, 514, 516, 1023, 1024} {
			wantDecode(t, long[:n], zero, api.ErrArg)
			wantDecode(t, make([]byte, n), zero, api.ErrArg)
		}
		wantDecode(t, long[:512], s.t, api.OK)
	}
}

// Tb1: an empty page is the first table; of noughts with one other byte the sum is another one.
func TestDecodeOfNoughts(t *testing.T) {
	wantDecode(t, make([]byte, 512), first(), api.OK)
	for i := range 512 {
		for _, c := range []byte{1, 2, 84, 128, 255} {
			b := make([]byte, 512)
			b[i] = c
			wantDecode(t, b, api.Table{}, api.ErrSum)
		}
	}
	wantDecode(t, sealed(nil), api.Table{}, api.ErrText) // noughts with their sum are not an empty page
	wantDecode(t, sealed([]byte{84}), api.Table{}, api.ErrText)
}

// Tb1: a page with one bit turned anywhere, and with many of them turned.
func TestDecodeOfOtherSums(t *testing.T) {
	for _, x := range []api.Table{first(), mixed(), twelve(), allOf(2)} {
		page := slowPage(x)
		for bit := range 8 * 512 {
			b := bytes.Clone(page)
			b[bit/8] ^= 1 << (bit % 8)
			wantDecode(t, b, api.Table{}, api.ErrSum)
		}
		for i := range 509 {
			b := bytes.Clone(page)
			b[i], b[i+3] = ^b[i], ^b[i+3]
			wantDecode(t, b, api.Table{}, api.ErrSum)
		}
	}
}

// Tb1: the sum is told ahead of what else is wrong with a page, and goes over all of it.
func TestDecodeTellsSumFirst(t *testing.T) {
	for _, change := range []func(b []byte){
		func(b []byte) { b[4] = 'U' },
		func(b []byte) { b[5] = 255 },
		func(b []byte) { b[17] = 9 },
		func(b []byte) { b[511] = 1 },
		func(b []byte) { copy(b, make([]byte, 4)) },
		func(b []byte) { binary.BigEndian.PutUint32(b, slowSum(b[4:149])) },
		func(b []byte) { binary.LittleEndian.PutUint32(b, slowSum(b[4:])) },
		func(b []byte) { binary.BigEndian.PutUint32(b, ^slowSum(b[4:])) },
	} {
		b := slowPage(mixed())
		change(b)
		wantDecode(t, b, api.Table{}, api.ErrSum)
	}
}

// put is bytes with others laid over them.
func put(b []byte, at int, over ...byte) []byte {
	b = bytes.Clone(b)
	copy(b[at:], over)
	return b
}

// wantNoPage holds that a page that is sealed anew is none.
func wantNoPage(t *testing.T, page []byte) {
	t.Helper()
	wantDecode(t, anew(page), api.Table{}, api.ErrText)
}

// Tb1: sealed pages with another first byte, or with a byte behind the last entry that is no nought.
func TestDecodeOfOtherEnds(t *testing.T) {
	for _, x := range []api.Table{first(), mixed(), twelve(), allOf(2)} {
		page := slowPage(x)
		for c := range 256 {
			if c != 84 {
				wantNoPage(t, put(page, 4, byte(c)))
			}
		}
		for i := 149; i < 512; i++ {
			for _, c := range []byte{1, 84, 128, 255} {
				wantNoPage(t, put(page, i, c))
			}
		}
	}
}

// fits tells whether a table's numbers can lie in a page's bytes, whether or not it may be.
func fits(t api.Table) bool {
	within := func(n, top int) bool { return n >= 0 && n <= top }
	is := len(t.Entries) == 12 && within(t.NextTx, 1<<32-1) && within(t.NextNo, 1<<32-1) && within(t.Commits, 1<<32-1)
	for _, e := range t.Entries {
		is = is && within(e.State, 255) && within(e.Tx, 1<<32-1) && within(e.Last, 65535) && within(e.Commit, 1<<32-1)
	}
	return is
}

// Tb1: sealed pages of tables that may not be, each in one part.
func TestDecodeOfBadTables(t *testing.T) {
	n := 0
	for _, s := range badTables() {
		if fits(s.t) {
			n++
			wantDecode(t, slowPage(s.t), api.Table{}, api.ErrText)
		}
	}
	if n < 500 {
		t.Errorf("%d pages: too few to tell", n)
	}
	wantNoPage(t, append(make([]byte, 4), append(textOf(mixed()), textOf(of(1, 1, 0, active(1, 0)))[13:24]...)...)) // thirteen entries
	wantNoPage(t, append(make([]byte, 4), textOf(mixed())[1:]...))
	wantNoPage(t, append(make([]byte, 4), append([]byte{84, 12}, textOf(mixed())[1:]...)...))
}

// Tb1: a number of four bytes that is above MaxCount, in each place.
func TestDecodeOfGreatNumbers(t *testing.T) {
	places := []int{5, 9, 13}
	for i := range 12 {
		places = append(places, 18+11*i, 24+11*i)
	}
	for _, x := range []api.Table{mixed(), allOf(1), allOf(2)} {
		page := slowPage(x)
		for _, at := range places {
			wantNoPage(t, put(page, at, page[at]|0x80))
			wantNoPage(t, put(page, at, 0x80, 0, 0, 0))
			wantNoPage(t, put(page, at, 0xFF, 0xFF, 0xFF, 0xFF))
		}
	}
}

// Tb1: each byte of a page is made each other one, and sealed anew: it is then another page, of another table, or none.
func TestDecodeOfEachByte(t *testing.T) {
	is, none := 0, 0
	for _, x := range []api.Table{mixed(), allOf(2)} {
		page := slowPage(x)
		for i := 4; i < 160; i++ {
			for c := range 256 {
				b := anew(put(page, i, byte(c)))
				if wantByWords(t, b) != api.OK {
					none++
					continue
				}
				is++
				y, _ := Decode(b)
				wantEncode(t, y, b, api.OK)
				if alike(y, x) != bytes.Equal(b, page) {
					t.Fatalf("byte %d as %d: %v", i, c, y)
				}
			}
		}
	}
	if is < 5000 || none < 5000 {
		t.Errorf("%d pages, %d that are none: too few to tell", is, none)
	}
}

// Tb1: tables are alike that have the same numbers, and the same entries in the same order.
func TestSame(t *testing.T) {
	x := mixed()
	var other []api.Table
	change := func(part func(y *api.Table)) {
		y := clone(x)
		part(&y)
		other = append(other, y)
	}
	for _, n := range []int{-1, 0, 1, 1 << 32, 1<<32 + 100, 1<<32 + 50, 1<<32 + 9} {
		change(func(y *api.Table) { y.NextTx = n })
		change(func(y *api.Table) { y.NextNo = n })
		change(func(y *api.Table) { y.Commits = n })
	}
	change(func(y *api.Table) { y.NextTx++ })
	change(func(y *api.Table) { y.NextNo++ })
	change(func(y *api.Table) { y.Commits++ })
	change(func(y *api.Table) { y.NextTx, y.NextNo = y.NextNo, y.NextTx })
	for i := range 12 {
		change(func(y *api.Table) { y.Entries[i].Tx++ })
		change(func(y *api.Table) { y.Entries[i].State++ })
		change(func(y *api.Table) { y.Entries[i].Last++ })
		change(func(y *api.Table) { y.Entries[i].Commit++ })
		change(func(y *api.Table) { y.Entries[i].Commit-- })
		change(func(y *api.Table) { y.Entries = y.Entries[:i] })
	}
	change(func(y *api.Table) { y.Entries = y.Entries[1:] })
	change(func(y *api.Table) { y.Entries = nil })
	change(func(y *api.Table) { y.Entries = append(y.Entries, free()) })
	change(func(y *api.Table) { slices.Reverse(y.Entries) })
	change(func(y *api.Table) { y.Entries[1], y.Entries[2] = y.Entries[2], y.Entries[1] })
	other = append(other, api.Table{}, first())
	for _, o := range other {
		if Same(x, o) || Same(o, x) {
			t.Errorf("%v and %v: alike", x, o)
		}
	}
	for _, s := range slices.Concat(goodTables(), badTables()) {
		if !Same(s.t, s.t) || !Same(s.t, clone(s.t)) || !Same(clone(s.t), s.t) {
			t.Errorf("%s: not alike itself", s.name)
		}
	}
}

// Tb1: Same of tables that may not be tells whether they are alike too; nil and the empty list are the same, and spare room is of no account.
func TestSameOfBad(t *testing.T) {
	none := api.Table{Entries: []api.Entry{}}
	if !Same(api.Table{}, none) || !Same(none, api.Table{}) || !Same(api.Table{}, api.Table{}) {
		t.Error("nil and the empty list are not the same")
	}
	bad := badTables()
	for i := range bad {
		for j := i; j < min(i+40, len(bad)); j++ {
			if got := Same(bad[i].t, bad[j].t); got != alike(bad[i].t, bad[j].t) {
				t.Errorf("%s, %s: %t", bad[i].name, bad[j].name, got)
			}
		}
	}
	a, b := mixed(), mixed()
	a.Entries = append(a.Entries, active(20, 0))[:12]
	if !Same(a, b) || !Same(b, a) {
		t.Error("what lies behind the entries counts")
	}
}

// Tb2: Find of each entry, of none, of 0 and below, and far away.
func TestFind(t *testing.T) {
	for _, c := range []struct{ tx, at int }{
		{5, 1}, {7, 2}, {99, 4}, {1, 5}, {50, 6}, {2, 7},
		{0, -1}, {-1, -1}, {-5, -1}, {3, -1}, {4, -1}, {6, -1}, {8, -1}, {9, -1}, {98, -1}, {100, -1}, {101, -1},
		{most - 1, -1}, {most, -1}, {most + 1, -1}, {math.MaxInt, -1}, {math.MinInt, -1}, {1<<32 + 5, -1}, {1 << 32, -1},
	} {
		if at := Find(mixed(), c.tx); at != c.at {
			t.Errorf("Find %d = %d, not %d", c.tx, at, c.at)
		}
	}
	for _, s := range goodTables() {
		for i, e := range s.t.Entries {
			if e.State != 0 && Find(s.t, e.Tx) != i {
				t.Errorf("%s: Find %d = %d, not %d", s.name, e.Tx, Find(s.t, e.Tx), i)
			}
		}
		for _, tx := range append(far(), 0, -1, -2) {
			if at := Find(s.t, tx); at != -1 {
				t.Errorf("%s: Find %d = %d", s.name, tx, at)
			}
		}
	}
}

// Tb2: Enter takes the first free entry, be there others behind it or ahead.
func TestEnter(t *testing.T) {
	wantEnter(t, first(), 1, of(2, 1, 0, active(1, 0)), 0, api.OK)
	wantEnter(t, first(), 5, of(6, 1, 0, active(5, 0)), 0, api.OK)
	wantEnter(t, mixed(), 60, with(mixed(), 0, active(60, 0)), 0, api.OK)
	x := with(mixed(), 0, active(60, 4))
	wantEnter(t, x, 61, with(x, 3, active(61, 0)), 3, api.OK)
	x = with(x, 3, done(61, 4, 2))
	wantEnter(t, x, 62, with(x, 8, active(62, 0)), 8, api.OK)
	for i := range 12 {
		x := with(twelve(), i, free())
		wantEnter(t, x, i+1, with(x, i, active(i+1, 0)), i, api.OK)
	}
}

// Tb2: NextTx is more than tx: it stays where it is so already.
func TestEnterTurnsNextTx(t *testing.T) {
	for _, c := range []struct{ next, tx, then int }{
		{10, 1, 10}, {10, 8, 10}, {10, 9, 10}, {10, 10, 11}, {10, 11, 12}, {10, 500, 501},
		{1, 1, 2}, {1, 2, 3}, {2, 1, 2}, {1, most - 1, most}, {1, most - 2, most - 1},
		{most, 1, most}, {most, most - 1, most}, {most - 1, most - 1, most}, {most - 1, most - 2, most - 1},
	} {
		wantEnter(t, of(c.next, 4, 3), c.tx, of(c.then, 4, 3, active(c.tx, 0)), 0, api.OK)
	}
}

// Tb2: Enter of a tx that is not 1 to MaxCount - 1, of one that has an entry, and with none free; which of them is told first.
func TestEnterRefuses(t *testing.T) {
	for _, s := range goodTables() {
		for _, tx := range append(far(), 0, -1, -2, most, most+1, 1<<31, 1<<32-1) {
			wantEnter(t, s.t, tx, s.t, -1, api.ErrArg)
		}
		for _, e := range s.t.Entries {
			if e.State != 0 {
				wantEnter(t, s.t, e.Tx, s.t, -1, api.ErrOp) // twelve or fewer
			}
		}
	}
	wantEnter(t, mixed(), 5, mixed(), -1, api.ErrOp)
	wantEnter(t, mixed(), 7, mixed(), -1, api.ErrOp)
	for _, tx := range []int{13, 14, 1000, most - 1} {
		wantEnter(t, twelve(), tx, twelve(), -1, api.ErrSlot)
	}
	wantEnter(t, allOf(1), 1, allOf(1), -1, api.ErrSlot)
	wantEnter(t, allOf(2), 1, allOf(2), -1, api.ErrSlot)
	wantEnter(t, allOf(2), most-1, allOf(2), -1, api.ErrOp)
	wantEnter(t, allOf(2), most, allOf(2), -1, api.ErrArg)
}

// Tb2: Write of the cells that may be: Last is it, and NextNo one more; all else stays.
func TestWrite(t *testing.T) {
	for _, cell := range []int{0, 1, 3, 4, 255, 256, 65534, 65535} {
		x := with(mixed(), 1, active(5, cell))
		x.NextNo = 51
		wantWrite(t, mixed(), 5, cell, x, api.OK)
		x = with(mixed(), 4, active(99, cell))
		x.NextNo = 51
		wantWrite(t, mixed(), 99, cell, x, api.OK)
	}
	wantWrite(t, of(most, most-1, most, active(most-1, 9)), most-1, 65535, of(most, most, most, active(most-1, 65535)), api.OK)
	wantWrite(t, of(2, 1, 0, active(1, 0)), 1, 0, of(2, 2, 0, active(1, 0)), api.OK)
	for i := range 12 {
		x := with(of(9, 3, 2), i, active(8, 1))
		y := with(of(9, 4, 2), i, active(8, 77))
		wantWrite(t, x, 8, 77, y, api.OK)
	}
}

// Tb2: Write of one that has no entry, of one that is done, with NextNo at its greatest, of a cell that may not be; which of them is told first.
func TestWriteRefuses(t *testing.T) {
	bad := append(far(), -1, -2, 65536, 65537, 131071)
	for _, cell := range append(bad, 0, 3, 65535) {
		for _, tx := range append(far(), 0, -1, 3, 100, most) {
			wantWrite(t, mixed(), tx, cell, mixed(), api.ErrNone)
			wantWrite(t, of(9, most, 2), tx, cell, of(9, most, 2), api.ErrNone)
		}
		for _, tx := range []int{7, 1, 50} {
			wantWrite(t, mixed(), tx, cell, mixed(), api.ErrOp)
		}
		x := mixed()
		x.NextNo = most
		for _, tx := range []int{5, 99, 2, 7} {
			wantWrite(t, x, tx, cell, x, api.ErrOp)
		}
		wantWrite(t, x, 3, cell, x, api.ErrNone)
	}
	for _, cell := range bad {
		for _, tx := range []int{5, 99, 2} {
			wantWrite(t, mixed(), tx, cell, mixed(), api.ErrArg)
		}
	}
}

// Tb2: Commit: Commits is one more, the entry is done, of that, and its Last stays; told it.
func TestCommit(t *testing.T) {
	x := with(mixed(), 1, done(5, 3, 10))
	x.Commits = 10
	wantCommit(t, mixed(), 5, x, 10, api.OK)
	x = with(mixed(), 4, done(99, 65535, 10))
	x.Commits = 10
	wantCommit(t, mixed(), 99, x, 10, api.OK)
	wantCommit(t, of(2, 1, 0, active(1, 0)), 1, of(2, 1, 1, done(1, 0, 1)), 1, api.OK)
	wantCommit(t, of(most, most, most-1, active(most-1, 7)), most-1, of(most, most, most, done(most-1, 7, most)), most, api.OK)
	for i := range 12 {
		wantCommit(t, with(of(9, 3, 2), i, active(8, 1)), 8, with(of(9, 3, 3), i, done(8, 1, 3)), 3, api.OK)
	}
}

// Tb2: Commit of one that has no entry, of one that is done, and with Commits at their greatest; which of them is told first.
func TestCommitRefuses(t *testing.T) {
	x := mixed()
	x.Commits = most
	for _, tx := range append(far(), 0, -1, 3, 100, most) {
		wantCommit(t, mixed(), tx, mixed(), 0, api.ErrNone)
		wantCommit(t, x, tx, x, 0, api.ErrNone)
		wantCommit(t, first(), tx, first(), 0, api.ErrNone)
	}
	for _, tx := range []int{7, 1, 50} {
		wantCommit(t, mixed(), tx, mixed(), 0, api.ErrOp)
		wantCommit(t, x, tx, x, 0, api.ErrOp)
	}
	for _, tx := range []int{5, 99, 2} {
		wantCommit(t, x, tx, x, 0, api.ErrOp)
	}
}

// Tb2: Leave of each state: the entry is free, and all else stays; of one that has none.
func TestLeave(t *testing.T) {
	for i, e := range mixed().Entries {
		if e.State != 0 {
			wantLeave(t, mixed(), e.Tx, with(mixed(), i, free()), api.OK)
		}
	}
	for _, s := range goodTables() {
		for i, e := range s.t.Entries {
			if e.State != 0 {
				wantLeave(t, s.t, e.Tx, with(s.t, i, free()), api.OK)
			}
		}
		for _, tx := range append(far(), 0, -1, -5, most, most+1) {
			wantLeave(t, s.t, tx, s.t, api.ErrNone)
		}
	}
	for _, tx := range []int{3, 4, 6, 98, 100} {
		wantLeave(t, mixed(), tx, mixed(), api.ErrNone)
	}
}

// Tb3: Live and Eldest of none, of one and of many; in order of entries, and whatever the order they were committed in.
func TestLiveAndEldest(t *testing.T) {
	for _, c := range []struct {
		t      api.Table
		live   []int
		eldest int
	}{
		{first(), nil, 0},
		{of(9, 1, 0, active(8, 0)), []int{8}, 0},
		{of(9, 1, 1, done(8, 0, 1)), nil, 8},
		{mixed(), []int{5, 99, 2}, 1},
		{twelve(), []int{1, 2, 4, 5, 7, 8, 10, 11}, 12},
		{of(9, 1, 9, done(3, 0, 5), done(4, 0, 6), done(2, 0, 7)), nil, 3},
		{of(9, 1, 9, done(3, 0, 7), done(4, 0, 6), done(2, 0, 5)), nil, 2},
		{of(9, 1, 9, done(3, 0, 6), done(4, 0, 5), done(2, 0, 9)), nil, 4},
		{of(9, 1, 9, active(1, 0), done(3, 9, 9), active(8, 0)), []int{1, 8}, 3},
		{of(9, 1, 9, active(8, 0), active(1, 0), active(4, 0)), []int{8, 1, 4}, 0},
		{allOf(2), nil, most - 1},
		{of(most, 1, most, done(5, 0, most)), nil, 5},
	} {
		if l := Live(c.t); !slices.Equal(l, c.live) {
			t.Errorf("Live(%v) = %v, not %v", c.t, l, c.live)
		}
		if tx := Eldest(c.t); tx != c.eldest {
			t.Errorf("Eldest(%v) = %d, not %d", c.t, tx, c.eldest)
		}
		wantAsked(t, c.t, nil)
	}
	for i := range 12 {
		if l := Live(with(of(9, 1, 3), i, active(8, 0))); !slices.Equal(l, []int{8}) {
			t.Errorf("one that writes in %d: %v", i, l)
		}
		if tx := Eldest(with(of(9, 1, 3), i, done(8, 0, 3))); tx != 8 {
			t.Errorf("one that is done in %d: %d", i, tx)
		}
	}
}

// orders are all orders of these.
func orders(l []int) [][]int {
	if len(l) == 0 {
		return [][]int{nil}
	}
	var all [][]int
	for i, x := range l {
		for _, rest := range orders(slices.Concat(l[:i], l[i+1:])) {
			all = append(all, append([]int{x}, rest...))
		}
	}
	return all
}

// Tb3, Tb4: five are entered in one order, committed in any other, and leave as the eldest: that is the order that they were committed in, and they are numbered without a gap.
func TestEldestInAllOrders(t *testing.T) {
	txs := []int{30, 10, 50, 20, 40}
	for _, order := range orders(txs) {
		x := First()
		for _, tx := range txs {
			x, _, _ = Enter(x, tx)
		}
		for i, tx := range order {
			live := slices.DeleteFunc(slices.Clone(txs), func(tx int) bool { return slices.Contains(order[:i], tx) })
			if l := Live(x); !slices.Equal(l, live) {
				t.Fatalf("Live = %v, not %v", l, live)
			}
			var n int
			if x, n, _ = Commit(x, tx); n != i+1 || Eldest(x) != order[0] {
				t.Fatalf("%v: Commit %d is told as %d, the eldest is %d", order, tx, n, Eldest(x))
			}
		}
		for _, tx := range order {
			if Eldest(x) != tx {
				t.Fatalf("%v: the eldest is %d, not %d", order, Eldest(x), tx)
			}
			x, _ = Leave(x, tx)
		}
		if !alike(x, of(51, 1, 5)) {
			t.Fatalf("%v: what is left is %v", order, x)
		}
	}
}

// Tb2: all calls on the tables at the edges are held against the chapter's words.
func TestActsOnGood(t *testing.T) {
	txs := append(far(), -1, 0, 1, 2, 5, 7, 8, 12, 13, 60, 99, 100, most-12, most-2, most-1, most, most+1)
	l := acts(txs, []int{-1, 0, 1, 65535, 65536})
	for _, s := range goodTables() {
		for _, a := range l {
			want(t, a.name, s.t, a.do(s.t), a.slow(s.t))
		}
		wantAsked(t, s.t, txs)
	}
}

// Tb2, Tb3, Tb4: strewn calls, one behind the other from the first table on, are held against the chapter's words; commits are numbered without a gap, refused ones between them or not, and Decode of Encode is the table at each step.
func TestStrewnCalls(t *testing.T) {
	r := rand.New(rand.NewPCG(11, 1))
	seen := map[string]int{}
	for range 60 {
		x, commits, writes := First(), 0, 0
		l := acts(r.Perm(22), []int{r.IntN(65536), r.IntN(65536), -1 - r.IntN(9), 65536 + r.IntN(9)})
		for range 300 {
			a := l[r.IntN(len(l))]
			got := a.do(x)
			want(t, a.name, x, got, a.slow(x))
			kind := a.name[:1]
			seen[fmt.Sprint(kind, got.e)]++
			if kind == "C" && got.e == api.OK {
				commits++
				if got.n != commits {
					t.Fatalf("%s is told as %d, not %d", a.name, got.n, commits)
				}
			}
			if kind == "W" && got.e == api.OK {
				writes++
			}
			x = got.t
			if x.Commits != commits || x.NextNo != 1+writes {
				t.Fatalf("behind %d commits and %d writes: %v", commits, writes, x)
			}
			wantAsked(t, x, []int{r.IntN(25) - 2})
			wantEncode(t, x, slowPage(x), api.OK)
			if y, e := Decode(slowPage(x)); e != api.OK || !alike(x, y) {
				t.Fatalf("Decode of %v: %v, error %d", x, y, e)
			}
		}
	}
	for _, k := range []string{"E0", "E1", "E2", "E12", "W0", "W1", "W2", "W3", "C0", "C2", "C3", "L0", "L3"} {
		if seen[k] < 100 {
			t.Errorf("%s was told %d times: too few to tell (%v)", k, seen[k], seen)
		}
	}
}

// strewn is a table that mostly may be; one number strays out of its bounds now and then.
func strewn(r *rand.Rand) api.Table {
	t := of(20+r.IntN(most-20), 1+r.IntN(most), 15+r.IntN(most-15))
	if r.IntN(2) == 0 {
		t.NextTx, t.Commits = 20, 15
	}
	txs, commits := r.Perm(19), r.Perm(15)
	for i := range t.Entries {
		switch r.IntN(3) {
		case 1:
			t.Entries[i] = active(1+txs[i], r.IntN(65536))
		case 2:
			t.Entries[i] = done(1+txs[i], r.IntN(65536), 1+commits[i])
		}
	}
	e := &t.Entries[r.IntN(12)]
	switch r.IntN(20) {
	case 0:
		t.NextTx = r.IntN(30)
	case 1:
		t.Commits = r.IntN(20) - 1
	case 2:
		e.State = r.IntN(5) - 1
	case 3:
		e.Tx = r.IntN(25) - 1
	case 4:
		e.Last = r.IntN(65600) - 20
	case 5:
		e.Commit = r.IntN(20) - 1
	case 6:
		t.NextNo = most + r.IntN(3) - 1
	case 7:
		t.Entries = t.Entries[:11+r.IntN(2)]
	}
	return t
}

// Tb1, Tb2, Tb3, Tb4: strewn tables are held against the chapter's words.
func TestStrewnTables(t *testing.T) {
	r := rand.New(rand.NewPCG(11, 2))
	is, none := 0, 0
	for range 20000 {
		x := strewn(r)
		txs := []int{r.IntN(22) - 1, r.IntN(22) - 1, x.NextTx - 1, x.NextTx}
		wantAsked(t, x, txs)
		for _, a := range acts(txs, []int{r.IntN(65540) - 2}) {
			want(t, a.name, x, a.do(x), a.slow(x))
		}
		if !slowCheck(x) {
			none++
			wantEncode(t, x, nil, api.ErrArg)
			continue
		}
		is++
		b := slowPage(x)
		wantEncode(t, x, b, api.OK)
		if y, e := Decode(b); e != api.OK || !alike(x, y) || !Same(x, y) {
			t.Fatalf("Decode of %v: %v, error %d", x, y, e)
		}
	}
	if is < 5000 || none < 2000 {
		t.Errorf("%d tables that may be, %d that may not: too few to tell", is, none)
	}
}

// Tb1: strewn pages, sealed, most of them: a few bytes of a page are any others.
func TestStrewnPages(t *testing.T) {
	r := rand.New(rand.NewPCG(11, 3))
	seen := map[api.Errno]int{}
	good := goodTables()
	for range 20000 {
		b := slowPage(good[r.IntN(len(good))].t)
		for range r.IntN(4) {
			i := 4 + r.IntN(150)
			b[i] = byte(r.Uint32())
			if r.IntN(2) == 0 {
				b[i] = byte(r.IntN(3))
			}
		}
		if r.IntN(20) == 0 {
			b[4+r.IntN(508)]++
		}
		if r.IntN(8) > 0 {
			b = anew(b)
		}
		if r.IntN(30) == 0 {
			b = b[:r.IntN(512)]
		}
		seen[wantByWords(t, b)]++
	}
	for _, e := range []api.Errno{api.OK, api.ErrArg, api.ErrSum, api.ErrText} {
		if seen[e] < 400 {
			t.Errorf("error %d was told %d times: too few to tell", e, seen[e])
		}
	}
}

// spoil writes over all of a table's entries, and their spare room.
func spoil(t api.Table) {
	l := t.Entries[:cap(t.Entries)]
	for i := range l {
		l[i] = api.Entry{Tx: -7, State: -7, Last: -7, Commit: -7}
	}
}

func spoilBytes(b []byte) {
	b = b[:cap(b)]
	for i := range b {
		b[i] ^= 0xFF
	}
}

// roomy is a table with something behind its entries.
func roomy(t api.Table) (api.Table, []api.Entry) {
	n := len(t.Entries)
	room := append(slices.Clone(t.Entries), active(21, 5), done(22, 6, 7), free())
	t.Entries = room[:n]
	return t, room
}

// R3: the table that is handed in is left, with what lies behind its entries, and what is told shares nothing with it or with another answer, beside an error too.
func TestActsLeave(t *testing.T) {
	l := acts([]int{0, 1, 5, 7, 13, 60}, []int{-1, 9})
	for _, x := range []api.Table{first(), mixed(), twelve(), of(5, 1, 0, active(5, 0)), {}} {
		for _, a := range l {
			given, room := roomy(x)
			was := slices.Clone(room)
			one, two := a.do(given), a.do(given)
			spoil(one.t)
			if !slices.Equal(room, was) || !alike(given, x) {
				t.Errorf("%s has changed %v to %v", a.name, x, given)
			}
			spoil(api.Table{Entries: room})
			want(t, a.name+" with memory of its own", x, two, a.slow(x))
		}
	}
}

// R3: what is only asked is left, with what lies behind it, and what is told is new memory.
func TestAsksLeave(t *testing.T) {
	for _, x := range []api.Table{first(), mixed(), twelve(), of(5, 1, 0, active(5, 0)), {}} {
		given, room := roomy(x)
		was := slices.Clone(room)
		Check(given)
		Find(given, 5)
		Eldest(given)
		Same(given, given)
		one, two := Live(given), Live(given)
		a, _ := Encode(given)
		b, _ := Encode(given)
		page := bytes.Clone(b)
		spoilBytes(a)
		for i := range one[:cap(one)] {
			one[:cap(one)][i] = -7
		}
		if !slices.Equal(room, was) || !alike(given, x) {
			t.Errorf("%v has changed to %v", x, given)
		}
		spoil(api.Table{Entries: room})
		if !bytes.Equal(b, page) || !slices.Equal(two, slowLive(x)) {
			t.Errorf("of %v what was told has changed: %X, %v", x, b, two)
		}
	}
}

// R3: the page that is handed in is left, with what lies behind its end, and the table shares nothing with another one.
func TestDecodeLeaves(t *testing.T) {
	pages := [][]byte{make([]byte, 512), slowPage(first()), slowPage(mixed()), slowPage(twelve()), put(slowPage(mixed()), 9, 9), anew(put(slowPage(mixed()), 17, 9))}
	for _, page := range pages {
		for _, n := range []int{511, 512} {
			long := append(bytes.Clone(page), "behind the end"...)
			was := bytes.Clone(long)
			x, _ := slowDecode(page[:n])
			one, _ := Decode(long[:n])
			two, _ := Decode(long[:n])
			spoil(one)
			if !bytes.Equal(long, was) {
				t.Errorf("Decode has changed what it was given: %X", long)
			}
			spoilBytes(long)
			if !alike(two, x) {
				t.Errorf("a table has changed with another one, or with its page: %v", two)
			}
		}
	}
}

// R4: asked again, behind an error too, the same is told.
func TestAgain(t *testing.T) {
	l := acts([]int{0, 1, 5, 7, 13, 60}, []int{-1, 9})
	for _, s := range goodTables() {
		for _, a := range l {
			x := a.do(s.t)
			wantEncode(t, api.Table{}, nil, api.ErrArg)
			wantDecode(t, nil, api.Table{}, api.ErrArg)
			wantEnter(t, api.Table{}, 5, api.Table{}, -1, api.ErrArg)
			want(t, a.name+" again", s.t, a.do(s.t), x)
		}
	}
}
