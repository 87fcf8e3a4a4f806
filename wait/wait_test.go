package wait

import (
	"fmt"
	"math"
	"math/rand/v2"
	"slices"
	"testing"

	"humus/api"
)

const most = 1<<31 - 1 // what the document calls MaxCount, as it is written down there

// by is waits, told by pairs of numbers: who, and for whom.
func by(n ...int) []api.Wait {
	var l []api.Wait
	for i := 0; i < len(n); i += 2 {
		l = append(l, api.Wait{Who: n[i], For: n[i+1]})
	}
	return l
}

// line is so many waits, each for the next one, from that number on.
func line(from, n int) []api.Wait {
	var l []api.Wait
	for i := range n {
		l = append(l, api.Wait{Who: from + i, For: from + i + 1})
	}
	return l
}

// circle is a line whose last one waits for the first.
func circle(from, n int) []api.Wait {
	l := line(from, n)
	l[n-1].For = from
	return l
}

// star is so many waits from that number on, all for the same one.
func star(from, n, holder int) []api.Wait {
	var l []api.Wait
	for i := range n {
		l = append(l, api.Wait{Who: from + i, For: holder})
	}
	return l
}

// pairs is so many waits of which none has to do with another.
func pairs(from, n int) []api.Wait {
	var l []api.Wait
	for i := range n {
		l = append(l, api.Wait{Who: from + 2*i, For: from + 2*i + 1})
	}
	return l
}

func backwards(l []api.Wait) []api.Wait {
	l = slices.Clone(l)
	slices.Reverse(l)
	return l
}

func shuffled(l []api.Wait, r *rand.Rand) []api.Wait {
	l = slices.Clone(l)
	r.Shuffle(len(l), func(i, j int) { l[i], l[j] = l[j], l[i] })
	return l
}

// turned is the waits from that place on, and those ahead of it behind them.
func turned(l []api.Wait, at int) []api.Wait { return slices.Concat(l[at:], l[:at]) }

// meshed is the waits of both, by turns.
func meshed(a, b []api.Wait) []api.Wait {
	var l []api.Wait
	for i := range max(len(a), len(b)) {
		if i < len(a) {
			l = append(l, a[i])
		}
		if i < len(b) {
			l = append(l, b[i])
		}
	}
	return l
}

// alike goes by the parts, one after the other: what is told must not hang on Same.
func alike(a, b []api.Wait) bool {
	if len(a) != len(b) {
		return false
	}
	for i := range a {
		if a[i].Who != b[i].Who || a[i].For != b[i].For {
			return false
		}
	}
	return true
}

// reaches gathers all whom somebody waits for, over as many as there are, till no one comes to them.
func reaches(l []api.Wait, from, to int) bool {
	met := map[int]bool{}
	for {
		before := len(met)
		for _, w := range l {
			if w.Who == from || met[w.Who] {
				met[w.For] = true
			}
		}
		if met[to] || len(met) == before {
			return met[to]
		}
	}
}

// slowCheck goes by the chapter's words.
func slowCheck(l []api.Wait) api.Errno {
	if len(l) > 64 {
		return api.ErrArg
	}
	who := map[int]int{}
	for _, w := range l {
		who[w.Who]++
		if w.Who < 1 || w.Who > most || w.For < 1 || w.For > most || w.Who == w.For || who[w.Who] == 2 {
			return api.ErrArg
		}
	}
	for _, w := range l {
		if reaches(l, w.Who, w.Who) {
			return api.ErrArg
		}
	}
	return api.OK
}

// slowAdd goes by the chapter's words, one error after the other.
func slowAdd(l []api.Wait, who, holder int) ([]api.Wait, api.Errno) {
	if slowCheck(l) != api.OK || who < 1 || who > most || holder < 1 || holder > most {
		return nil, api.ErrArg
	}
	for _, w := range l {
		if w.Who == who {
			return l, api.ErrOp
		}
	}
	if who == holder || reaches(l, holder, who) {
		return l, api.ErrDead
	}
	if len(l) == 64 {
		return l, api.ErrSlot
	}
	return slices.Concat(l, by(who, holder)), api.OK
}

// slowDrop cuts one out after the other, from the last one on.
func slowDrop(l []api.Wait, who int) []api.Wait {
	l = slices.Clone(l)
	for i := len(l) - 1; i >= 0; i-- {
		if l[i].Who == who {
			l = slices.Delete(l, i, i+1)
		}
	}
	return l
}

func slowOn(l []api.Wait, holder int) []int {
	var told []int
	for i := len(l) - 1; i >= 0; i-- {
		if l[i].For == holder {
			told = slices.Insert(told, 0, l[i].Who)
		}
	}
	return told
}

// slowFor is told by the first one: there is no other in waits that may be.
func slowFor(l []api.Wait, who int) int {
	told := 0
	for i := len(l) - 1; i >= 0; i-- {
		if l[i].Who == who {
			told = l[i].For
		}
	}
	return told
}

func wantCheck(t *testing.T, l []api.Wait, want api.Errno) {
	t.Helper()
	if slow := slowCheck(l); slow != want {
		t.Fatalf("the words say of %v: error %d, not %d", l, slow, want)
	}
	if got := Check(l); got != want {
		t.Fatalf("Check(%v) = %d, not %d", l, got, want)
	}
}

func wantAdd(t *testing.T, l []api.Wait, who, holder int, want []api.Wait, why api.Errno) {
	t.Helper()
	if slow, e := slowAdd(l, who, holder); !alike(slow, want) || e != why {
		t.Fatalf("the words say of (%v, %d, %d): %v, error %d, not %v, %d", l, who, holder, slow, e, want, why)
	}
	got, e := Add(l, who, holder)
	if !alike(got, want) || e != why {
		t.Fatalf("Add(%v, %d, %d) = %v, error %d, not %v, %d", l, who, holder, got, e, want, why)
	}
	if e != api.ErrArg && Check(got) != api.OK {
		t.Fatalf("Add(%v, %d, %d) = %v, which may not be", l, who, holder, got)
	}
}

// wantAdded is a wait that stands behind all.
func wantAdded(t *testing.T, l []api.Wait, who, holder int) {
	t.Helper()
	wantAdd(t, l, who, holder, slices.Concat(l, by(who, holder)), api.OK)
}

// wantRefused is an error with what the chapter says stands beside it.
func wantRefused(t *testing.T, l []api.Wait, who, holder int, why api.Errno) {
	t.Helper()
	if why == api.ErrArg {
		wantAdd(t, l, who, holder, nil, why)
	} else {
		wantAdd(t, l, who, holder, l, why)
	}
}

func wantDrop(t *testing.T, l []api.Wait, who int, want []api.Wait) {
	t.Helper()
	if slow := slowDrop(l, who); !alike(slow, want) {
		t.Fatalf("the words say of (%v, %d): %v, not %v", l, who, slow, want)
	}
	if got := Drop(l, who); !alike(got, want) {
		t.Fatalf("Drop(%v, %d) = %v, not %v", l, who, got, want)
	}
}

func wantOn(t *testing.T, l []api.Wait, holder int, want ...int) {
	t.Helper()
	if slow := slowOn(l, holder); !slices.Equal(slow, want) {
		t.Fatalf("the words say of (%v, %d): %v, not %v", l, holder, slow, want)
	}
	if got := On(l, holder); !slices.Equal(got, want) {
		t.Fatalf("On(%v, %d) = %v, not %v", l, holder, got, want)
	}
}

func wantFor(t *testing.T, l []api.Wait, who, want int) {
	t.Helper()
	if slow := slowFor(l, who); slow != want {
		t.Fatalf("the words say of (%v, %d): %d, not %d", l, who, slow, want)
	}
	if got := For(l, who); got != want {
		t.Fatalf("For(%v, %d) = %d, not %d", l, who, got, want)
	}
}

// sample is waits with a name.
type sample struct {
	name string
	l    []api.Wait
}

// goodWaits are waits at the edges of what may be.
func goodWaits() []sample {
	return []sample{
		{"none", nil},
		{"none, not nil", []api.Wait{}},
		{"one", by(1, 2)},
		{"one, falling", by(2, 1)},
		{"the greatest for the least", by(most, 1)},
		{"the least for the greatest", by(1, most)},
		{"the two greatest", by(most-1, most)},
		{"two for the same one", by(1, 3, 2, 3)},
		{"two in a line", by(1, 2, 2, 3)},
		{"two in a line, the other way round", by(2, 3, 1, 2)},
		{"two that have nothing to do with each other", by(1, 2, 3, 4)},
		{"a tree", by(1, 3, 2, 3, 3, 7, 4, 6, 5, 6, 6, 7)},
		{"a tree, from its root on", by(6, 7, 5, 6, 4, 6, 3, 7, 2, 3, 1, 3)},
		{"a line over far numbers", by(1, most, most, 5, 5, 1<<30)},
		{"the shared test's", by(1, 2, 2, 3, 5, 3)},
		{"a line of 63", line(1, 63)},
		{"a line of 64", line(1, 64)},
		{"a line of 64, backwards", backwards(line(1, 64))},
		{"a line of 64 to the greatest", line(most-64, 64)},
		{"a star of 64", star(1, 64, 65)},
		{"a star of 64 for the least", star(2, 64, 1)},
		{"64 pairs", pairs(1, 64)},
		{"two lines of 32, by turns", meshed(line(1, 32), line(40, 32))},
		{"two lines of 32 to one end", append(line(1, 32), append(line(40, 31), by(71, 33)...)...)},
	}
}

// badWaits are waits that may not be.
func badWaits() []sample {
	l := []sample{
		{"for itself", by(1, 1)},
		{"for itself, greatest", by(most, most)},
		{"for itself, behind one", by(1, 2, 3, 3)},
		{"for itself, ahead of one", by(3, 3, 1, 2)},
		{"one for whom somebody waits, for itself", by(1, 3, 3, 3)},
		{"twice the same", by(1, 2, 1, 2)},
		{"twice, for two", by(1, 2, 1, 3)},
		{"twice, far apart", by(1, 2, 4, 5, 6, 5, 1, 3)},
		{"twice, of 64", append(star(1, 63, 70), by(1, 71)...)},
		{"two for each other", by(1, 2, 2, 1)},
		{"two for each other, among others", by(8, 2, 1, 2, 9, 8, 2, 1, 4, 5)},
		{"a circle of three", by(1, 2, 2, 3, 3, 1)},
		{"a circle of three, falling", by(3, 2, 2, 1, 1, 3)},
		{"a circle of three, and a way into it", by(1, 2, 2, 3, 3, 1, 4, 1)},
		{"a way into a circle of three", by(4, 1, 1, 2, 2, 3, 3, 1)},
		{"a circle of 64", circle(1, 64)},
		{"a circle of 64, backwards", backwards(circle(1, 64))},
		{"two circles", by(1, 2, 4, 5, 2, 1, 5, 4)},
		{"65 in a line", line(1, 65)},
		{"65 for one", star(1, 65, 66)},
		{"65 pairs", pairs(1, 65)},
		{"66 pairs", pairs(1, 66)},
		{"a circle of 65", circle(1, 65)},
		{"a thousand pairs", pairs(1, 1000)},
	}
	for _, n := range []int{0, -1, -2, -most, most + 1, most + 2, 1 << 32, 1<<32 + 1, -1 << 32, math.MinInt, math.MinInt + 1, math.MaxInt} {
		l = append(l,
			sample{fmt.Sprintf("who %d", n), by(n, 2)},
			sample{fmt.Sprintf("for %d", n), by(1, n)},
			sample{fmt.Sprintf("both %d", n), by(n, n)},
			sample{fmt.Sprintf("who %d, behind one", n), by(1, 2, n, 2)},
			sample{fmt.Sprintf("for %d, behind one", n), by(1, 2, 2, n)},
			sample{fmt.Sprintf("who %d, ahead of one", n), by(n, 1, 1, 2)},
			sample{fmt.Sprintf("for %d, ahead of one", n), by(1, n, 2, 1)})
	}
	return l
}

// near are the numbers that are asked of waits: theirs, those beside them, and far ones.
func near(l []api.Wait) []int {
	n := []int{math.MinInt, -1 << 32, -1, 0, 1, 2, 3, most - 1, most, most + 1, 1 << 32, 1<<32 + 1, 1<<32 + 2, math.MaxInt}
	for _, w := range l[:min(len(l), 70)] { // of a thousand the first ones do
		n = append(n, w.Who, w.For, w.For+1, w.Who+1<<32, w.For-1<<32, -w.Who)
	}
	slices.Sort(n)
	return slices.Compact(n)
}

// The chapter's example: 1 for 2, 2 for 3, 3 for 1: ErrDead.
func TestExample(t *testing.T) {
	l, e := Add(nil, 1, 2)
	if e != api.OK {
		t.Fatalf("1 for 2: error %d", e)
	}
	l, e = Add(l, 2, 3)
	if e != api.OK || !alike(l, by(1, 2, 2, 3)) {
		t.Fatalf("2 for 3: %v, error %d", l, e)
	}
	if l, e = Add(l, 3, 1); e != api.ErrDead || !alike(l, by(1, 2, 2, 3)) {
		t.Fatalf("3 for 1: %v, error %d", l, e)
	}
}

// Wt1: Check of waits that may be, however they stand.
func TestCheckOfGood(t *testing.T) {
	r := rand.New(rand.NewPCG(18, 1))
	for _, s := range goodWaits() {
		t.Run(s.name, func(t *testing.T) {
			wantCheck(t, s.l, api.OK)
			wantCheck(t, backwards(s.l), api.OK)
			wantCheck(t, shuffled(s.l, r), api.OK)
			for n := range s.l {
				wantCheck(t, s.l[:n], api.OK)
				wantCheck(t, s.l[n:], api.OK)
			}
		})
	}
}

// Wt1: Check of waits that may not be, however they stand; Add to them is ErrArg, with no waits, whoever waits for whom.
func TestBad(t *testing.T) {
	r := rand.New(rand.NewPCG(18, 2))
	for _, s := range badWaits() {
		t.Run(s.name, func(t *testing.T) {
			wantCheck(t, s.l, api.ErrArg)
			wantCheck(t, backwards(s.l), api.ErrArg)
			wantCheck(t, shuffled(s.l, r), api.ErrArg)
			for _, n := range near(s.l) {
				wantRefused(t, s.l, n, 5000, api.ErrArg)
				wantRefused(t, s.l, 5000, n, api.ErrArg)
				wantRefused(t, s.l, n, n, api.ErrArg)
			}
		})
	}
}

// Wt1: Check at the edges of the numbers, on each side: 0, 1, MaxCount, one more, and below 0.
func TestCheckEdges(t *testing.T) {
	for _, n := range []int{math.MinInt, -most, -1, 0, 1, 2, most - 1, most, most + 1, 1<<32 + 1, math.MaxInt} {
		want := api.ErrArg
		if n == 1 || n == 2 || n == most-1 || n == most {
			want = api.OK
		}
		wantCheck(t, by(n, 9), want)
		wantCheck(t, by(9, n), want)
		for at := range 64 {
			l := star(100, 64, 99)
			l[at].Who = n
			wantCheck(t, l, want)
			l = star(100, 64, 99)
			l[at].For = n
			wantCheck(t, l, want)
		}
	}
}

// Wt1: up to 64 may be, whoever they wait for.
func TestCheckOfMany(t *testing.T) {
	for n := range 130 {
		want := api.OK
		if n > 64 {
			want = api.ErrArg
		}
		for _, l := range [][]api.Wait{line(1, n), star(1, n, 500), pairs(1, n), line(most-n, n)} {
			wantCheck(t, l, want)
			wantCheck(t, backwards(l), want)
		}
	}
	wantCheck(t, pairs(1, 100000), api.ErrArg)
	wantCheck(t, slices.Repeat(by(1, 2), 100000), api.ErrArg)
}

// Wt1: nobody is there twice as Who, next to each other or far apart, for the same one or for two.
func TestCheckTwice(t *testing.T) {
	for first := range 64 {
		for second := first + 1; second < 64; second++ {
			for _, l := range [][]api.Wait{star(1, 64, 200), pairs(1, 64)} {
				l[second].Who = l[first].Who
				wantCheck(t, l, api.ErrArg)
				wantCheck(t, by(l[first].Who, l[first].For, l[second].Who, l[second].For), api.ErrArg)
			}
		}
	}
	l := star(1, 64, 200)
	for at := range l { // as For anybody may be there as often as there are waits
		l[at].For = 300
		wantCheck(t, l, api.OK)
	}
}

// Wt1: nobody waits for itself, wherever that stands.
func TestCheckItself(t *testing.T) {
	for n := 1; n <= 64; n++ {
		for at := range n {
			for _, l := range [][]api.Wait{line(1, n), star(1, n, 500), pairs(1, n)} {
				l[at].For = l[at].Who
				wantCheck(t, l, api.ErrArg)
			}
		}
	}
}

// Wt1: circles of two, three and more up to 64: in order, backwards, begun anywhere, strewn.
func TestCheckCircles(t *testing.T) {
	r := rand.New(rand.NewPCG(18, 3))
	for n := 2; n <= 64; n++ {
		l := circle(10, n)
		wantCheck(t, l, api.ErrArg)
		wantCheck(t, backwards(l), api.ErrArg)
		wantCheck(t, shuffled(l, r), api.ErrArg)
		for at := range l {
			if n < 6 || at%7 == 0 || at == n-1 {
				wantCheck(t, turned(l, at), api.ErrArg)
				wantCheck(t, turned(backwards(l), at), api.ErrArg)
				wantCheck(t, slices.Delete(slices.Clone(l), at, at+1), api.OK) // one fewer, and it is a line
			}
		}
	}
}

// Wt1: circles among others that are none: ahead of them, behind them, between them, and with a way that leads into them.
func TestCheckCirclesAmong(t *testing.T) {
	r := rand.New(rand.NewPCG(18, 4))
	for _, n := range []int{1, 2, 3, 4, 5, 31, 32, 33, 61, 62, 63} {
		for _, others := range [][]api.Wait{pairs(100, 64-n), line(100, 64-n), star(100, 64-n, 99), star(100, 64-n, 10), append(line(100, 63-n), by(163-n, 10)...)} {
			l := circle(10, n)
			wantCheck(t, others, api.OK)
			wantCheck(t, slices.Concat(l, others), api.ErrArg)
			wantCheck(t, slices.Concat(others, l), api.ErrArg)
			wantCheck(t, meshed(others, l), api.ErrArg)
			wantCheck(t, meshed(l, backwards(others)), api.ErrArg)
			wantCheck(t, shuffled(slices.Concat(l, others), r), api.ErrArg)
			l[n-1].For = 5
			wantCheck(t, shuffled(slices.Concat(l, others), r), api.OK)
		}
	}
}

// Wt1: a line of 64 may be closed nowhere.
func TestCheckClosedLine(t *testing.T) {
	for n := 1; n <= 64; n++ {
		l := line(1, n)
		wantCheck(t, l, api.OK)
		wantCheck(t, backwards(l), api.OK)
		for holder := 1; holder <= n; holder++ {
			if n < 64 && holder > 2 && holder < n-1 {
				continue // of a line of 64 each one is tried
			}
			l[n-1].For = holder
			wantCheck(t, l, api.ErrArg)
			wantCheck(t, backwards(l), api.ErrArg)
		}
		l[n-1].For = n + 2
		wantCheck(t, l, api.OK)
	}
}

// everyList goes through all lists of so many waits of the numbers from the first to the last.
func everyList(first, last, n int, each func(l []api.Wait)) {
	l := make([]api.Wait, n)
	var fill func(at int)
	fill = func(at int) {
		if at == n {
			each(l)
			return
		}
		for who := first; who <= last; who++ {
			for holder := first; holder <= last; holder++ {
				l[at] = api.Wait{Who: who, For: holder}
				fill(at + 1)
			}
		}
	}
	fill(0)
}

// Wt1, Wt2: all lists of a few waits of a few numbers, and all that is asked of them.
func TestAllSmall(t *testing.T) {
	told := map[api.Errno]int{}
	each := func(l []api.Wait) {
		why := slowCheck(l)
		told[why]++
		wantCheck(t, l, why)
	}
	everyList(1, 4, 4, each)
	everyList(1, 6, 3, each)
	for n := range 4 {
		everyList(0, 4, n, each)
	}
	for n := range 3 {
		everyList(0, 4, n, func(l []api.Wait) { askAll(t, l, -1, 6) })
	}
	everyList(1, 3, 3, func(l []api.Wait) { askAll(t, l, 0, 4) })
	if told[api.OK] < 1000 || told[api.ErrArg] < 1000 {
		t.Errorf("too few to tell: %v", told)
	}
}

// askAll makes each call on waits with each of the numbers from the first to the last.
func askAll(t *testing.T, l []api.Wait, first, last int) {
	t.Helper()
	for who := first; who <= last; who++ {
		wantDrop(t, l, who, slowDrop(l, who))
		wantOn(t, l, who, slowOn(l, who)...)
		wantFor(t, l, who, slowFor(l, who))
		for holder := first; holder <= last; holder++ {
			want, why := slowAdd(l, who, holder)
			wantAdd(t, l, who, holder, want, why)
		}
	}
}

// Wt1: a wait for one that nobody knows yet, for one who waits, for one for whom others wait, and of one for whom others wait: it stands behind all.
func TestAdd(t *testing.T) {
	wantAdded(t, nil, 1, 2)
	wantAdded(t, []api.Wait{}, 2, 1)
	wantAdded(t, nil, 1, most)
	wantAdded(t, nil, most, 1)
	wantAdded(t, nil, most, most-1)
	l := by(5, 6, 3, 6, 8, 5)
	wantAdded(t, l, 1, 2)
	wantAdded(t, l, 9, 1)
	wantAdded(t, l, 1, 6)
	wantAdded(t, l, 7, 6)
	wantAdded(t, l, 1, 5)
	wantAdded(t, l, 7, 8)
	wantAdded(t, l, 6, 1)
	wantAdded(t, l, 6, 9)
	wantAdded(t, by(5, 6, 3, 4), 6, 3)
	wantAdded(t, by(5, 6, 3, 4), 6, 4)
	wantAdded(t, by(5, 6, 3, 4), 4, 5)
	wantAdded(t, by(5, 6, 3, 4), 4, 6)
	wantAdded(t, by(5, 6, 6, 7), 7, most)
}

// Wt1: a who or a holder that may not be is ErrArg, with no waits, whatever else would be told.
func TestAddArg(t *testing.T) {
	for _, s := range goodWaits() {
		t.Run(s.name, func(t *testing.T) {
			for _, n := range []int{0, -1, -2, -most, most + 1, most + 2, 1 << 32, 1<<32 + 1, -1 << 32, math.MinInt, math.MaxInt} {
				wantRefused(t, s.l, n, n, api.ErrArg)
				for _, other := range []int{1, 2, 3, 64, 65, 5000, most} {
					wantRefused(t, s.l, n, other, api.ErrArg)
					wantRefused(t, s.l, other, n, api.ErrArg)
				}
				for _, w := range s.l[:min(len(s.l), 6)] {
					wantRefused(t, s.l, w.Who, n, api.ErrArg)
					wantRefused(t, s.l, n, w.Who, api.ErrArg)
				}
			}
		})
	}
	wantAdded(t, nil, 1, most)
	wantAdded(t, nil, most, 1)
	wantRefused(t, nil, 0, 1, api.ErrArg)
	wantRefused(t, nil, 1, 0, api.ErrArg)
	wantRefused(t, nil, most+1, 1, api.ErrArg)
	wantRefused(t, nil, 1, most+1, api.ErrArg)
	wantRefused(t, nil, -1, 1, api.ErrArg)
	wantRefused(t, nil, 1, -1, api.ErrArg)
}

// Wt1: who waits already is ErrOp, also where the holder is who, is the same, would close a circle, or the list is full.
func TestAddOp(t *testing.T) {
	for _, s := range goodWaits() {
		t.Run(s.name, func(t *testing.T) {
			for _, w := range s.l {
				for _, holder := range []int{w.Who, w.For, 5000, most, 1} {
					wantRefused(t, s.l, w.Who, holder, api.ErrOp)
				}
				for _, ahead := range On(s.l, w.Who) {
					wantRefused(t, s.l, w.Who, ahead, api.ErrOp)
				}
			}
		})
	}
	wantRefused(t, line(1, 64), 64, 1, api.ErrOp)
	wantRefused(t, line(1, 64), 1, 64, api.ErrOp)
	wantRefused(t, line(1, 64), 33, 33, api.ErrOp)
}

// Wt1: a holder that is who is ErrDead, also where nobody waits, where others wait for who, and where the list is full.
func TestAddItself(t *testing.T) {
	for _, s := range goodWaits() {
		t.Run(s.name, func(t *testing.T) {
			for _, n := range []int{70, 5000, 1 << 20} {
				if For(s.l, n) == 0 {
					wantRefused(t, s.l, n, n, api.ErrDead)
				}
			}
			for _, w := range s.l {
				if slowFor(s.l, w.For) == 0 {
					wantRefused(t, s.l, w.For, w.For, api.ErrDead)
				}
			}
		})
	}
	wantRefused(t, nil, 1, 1, api.ErrDead)
	wantRefused(t, nil, most, most, api.ErrDead)
	wantRefused(t, star(1, 64, 65), 65, 65, api.ErrDead)
	wantRefused(t, star(1, 64, 65), 99, 99, api.ErrDead)
}

// Wt1: a holder that waits for who at once, over two, and over as many as there are, is ErrDead, also where the list is full.
func TestAddDead(t *testing.T) {
	r := rand.New(rand.NewPCG(18, 5))
	wantRefused(t, by(1, 2), 2, 1, api.ErrDead)
	wantRefused(t, by(1, 2, 2, 3), 3, 1, api.ErrDead)
	wantRefused(t, by(1, 2, 2, 3), 3, 2, api.ErrDead)
	wantRefused(t, by(2, 3, 1, 2), 3, 1, api.ErrDead)
	wantRefused(t, by(most, 1), 1, most, api.ErrDead)
	for n := 1; n <= 64; n++ {
		full := slices.Concat(pairs(200, 64-n), line(1, n))
		for _, l := range [][]api.Wait{line(1, n), backwards(line(1, n)), shuffled(line(1, n), r), full, backwards(full), shuffled(full, r)} {
			wantRefused(t, l, n+1, 1, api.ErrDead)
			wantRefused(t, l, n+1, n, api.ErrDead)
			wantRefused(t, l, n+1, 1+r.IntN(n), api.ErrDead)
			if len(l) < 64 {
				wantAdded(t, l, n+1, n+2)
				wantAdded(t, l, n+2, 1)
			}
		}
	}
	l := by(1, 3, 2, 3, 3, 7, 4, 6, 5, 6, 6, 7)
	for _, holder := range []int{1, 2, 3, 4, 5, 6, 7} {
		wantRefused(t, l, 7, holder, api.ErrDead)
		wantAdded(t, l, 8, holder)
	}
	wantAdded(t, by(1, 3, 2, 3, 4, 6, 5, 6), 3, 4)
	wantRefused(t, by(1, 3, 2, 3, 4, 6, 5, 6, 3, 4), 6, 1, api.ErrDead)
}

// Wt1: the 64th wait has room, the 65th has none.
func TestAddSlot(t *testing.T) {
	r := rand.New(rand.NewPCG(18, 6))
	for _, l := range [][]api.Wait{line(1, 63), star(1, 63, 500), pairs(1, 63), backwards(line(1, 63)), shuffled(pairs(1, 63), r), line(most-63, 63)} {
		for _, holder := range []int{1, 63, 64, 500, 900, most} {
			wantAdded(t, l, 800, holder)
			full := slices.Concat(l, by(800, holder))
			wantRefused(t, full, 801, holder, api.ErrSlot)
			wantRefused(t, full, 801, 800, api.ErrSlot)
			wantRefused(t, full, 801, 802, api.ErrSlot)
			wantRefused(t, full, 800, 802, api.ErrOp)
			wantRefused(t, full, 801, 801, api.ErrDead)
			wantRefused(t, full, holder, 800, slowWhy(full, holder, 800))
			for at := range full {
				wantAdded(t, slices.Delete(slices.Clone(full), at, at+1), 801, 803)
			}
		}
	}
	wantRefused(t, star(1, 64, 65), 65, 66, api.ErrSlot)
	wantRefused(t, line(1, 64), 65, 66, api.ErrSlot)
	wantRefused(t, line(1, 64), 66, 1, api.ErrSlot)
}

func slowWhy(l []api.Wait, who, holder int) api.Errno {
	_, why := slowAdd(l, who, holder)
	return why
}

// Wt1: 64 come, one behind the other, and stand in that order.
func TestAddMany(t *testing.T) {
	var l []api.Wait
	want := shuffled(slices.Concat(line(1, 30), star(100, 20, 9), pairs(200, 14)), rand.New(rand.NewPCG(18, 7)))
	for i, w := range want {
		var e api.Errno
		if l, e = Add(l, w.Who, w.For); e != api.OK || !alike(l, want[:i+1]) {
			t.Fatalf("%d waits: %v, error %d", i+1, l, e)
		}
	}
	wantRefused(t, l, 31, 1, api.ErrDead)
	wantRefused(t, l, 999, 1, api.ErrSlot)
}

// Wt2: Drop of one who waits, first, in the middle and last, takes its wait alone: those for whom it waited, and those that wait for it, stand in their order.
func TestDrop(t *testing.T) {
	for _, s := range goodWaits() {
		t.Run(s.name, func(t *testing.T) {
			for at, w := range s.l {
				wantDrop(t, s.l, w.Who, slices.Delete(slices.Clone(s.l), at, at+1))
				wantCheck(t, Drop(s.l, w.Who), api.OK)
			}
		})
	}
	l := by(1, 2, 2, 3, 5, 3)
	wantDrop(t, l, 1, by(2, 3, 5, 3))
	wantDrop(t, l, 2, by(1, 2, 5, 3))
	wantDrop(t, l, 5, by(1, 2, 2, 3))
	wantDrop(t, by(1, 2), 1, nil)
	wantDrop(t, by(most, 1), most, nil)
}

// Wt2: Drop of one who does not wait leaves all, also of one for whom others wait, of 0, of negative and of far numbers.
func TestDropNobody(t *testing.T) {
	for _, s := range goodWaits() {
		t.Run(s.name, func(t *testing.T) {
			for _, n := range near(s.l) {
				if slowFor(s.l, n) == 0 {
					wantDrop(t, s.l, n, s.l)
				}
			}
		})
	}
	l := by(1, 2, 2, 3, 5, 3)
	for _, n := range []int{3, 4, 6, 0, -1, -2, -5, 1<<32 + 1, 1<<32 + 2, -1 << 32, most, math.MinInt, math.MaxInt} {
		wantDrop(t, l, n, l)
	}
	wantDrop(t, nil, 1, nil)
	wantDrop(t, nil, 0, nil)
	wantDrop(t, []api.Wait{}, -1, nil)
}

// Wt2: Drop of waits that may not be takes all of that Who, whatever number it is; On and For tell what stands there.
func TestOfBad(t *testing.T) {
	wantDrop(t, by(1, 2, 1, 2), 1, nil)
	wantDrop(t, by(1, 2, 1, 3), 1, nil)
	wantDrop(t, by(1, 2, 4, 5, 1, 3, 1, 1, 6, 1), 1, by(4, 5, 6, 1))
	wantDrop(t, by(1, 1), 1, nil)
	wantDrop(t, by(0, 2, 1, 2), 0, by(1, 2))
	wantDrop(t, by(1, 0, 2, 3), 0, by(1, 0, 2, 3))
	wantDrop(t, by(-1, 2, 1, 2, -1, 5), -1, by(1, 2))
	wantDrop(t, by(1, 2, 2, 3, 3, 1), 3, by(1, 2, 2, 3))
	wantDrop(t, by(math.MinInt, 2, math.MaxInt, 2), math.MinInt, by(math.MaxInt, 2))
	wantDrop(t, circle(1, 64), 30, slices.Delete(circle(1, 64), 29, 30))
	wantDrop(t, line(1, 65), 65, line(1, 64))
	wantDrop(t, slices.Repeat(by(1, 2, 3, 4), 500), 1, slices.Repeat(by(3, 4), 500))
	wantOn(t, by(1, 2, 3, 2, 1, 2), 2, 1, 3, 1)
	wantOn(t, by(1, 1, 3, 1), 1, 1, 3)
	wantOn(t, by(1, 0, -3, 0, 0, 0), 0, 1, -3, 0)
	wantOn(t, by(0, -1, 5, -1), -1, 0, 5)
	wantFor(t, by(0, 7), 0, 7)
	wantFor(t, by(-1, 7, 0, 9), -1, 7)
	wantFor(t, by(1, 2, 1, 3), 1, 2)
	wantFor(t, by(1, -4), 1, -4)
	for _, s := range badWaits() {
		t.Run(s.name, func(t *testing.T) {
			for _, n := range near(s.l) {
				wantDrop(t, s.l, n, slowDrop(s.l, n))
				wantOn(t, s.l, n, slowOn(s.l, n)...)
				wantFor(t, s.l, n, slowFor(s.l, n))
			}
		})
	}
}

// Wt2: for whom nobody, one and many wait, in order.
func TestOn(t *testing.T) {
	l := by(1, 2, 9, 3, 2, 3, 8, 4, 5, 3)
	wantOn(t, l, 3, 9, 2, 5)
	wantOn(t, backwards(l), 3, 5, 2, 9)
	wantOn(t, l, 2, 1)
	wantOn(t, l, 4, 8)
	for _, n := range []int{1, 5, 6, 8, 9, 0, -1, -3, 1<<32 + 3, -1<<32 + 3, most, math.MinInt, math.MaxInt} {
		wantOn(t, l, n)
		wantOn(t, nil, n)
		wantOn(t, []api.Wait{}, n)
	}
	wantOn(t, by(most, 1), 1, most)
	wantOn(t, by(1, most), most, 1)
	var all []int
	for i := range 64 {
		all = append(all, i+1)
	}
	wantOn(t, star(1, 64, 65), 65, all...)
	slices.Reverse(all)
	wantOn(t, backwards(star(1, 64, 65)), 65, all...)
	for _, s := range goodWaits() {
		t.Run(s.name, func(t *testing.T) {
			for _, n := range near(s.l) {
				wantOn(t, s.l, n, slowOn(s.l, n)...)
			}
		})
	}
}

// Wt2: for whom somebody waits; 0 where it does not.
func TestFor(t *testing.T) {
	l := by(1, 2, 9, 3, 2, 3, 8, 4, 5, 3)
	for who, holder := range map[int]int{1: 2, 9: 3, 2: 3, 8: 4, 5: 3, 3: 0, 4: 0, 6: 0, 7: 0} {
		wantFor(t, l, who, holder)
		wantFor(t, backwards(l), who, holder)
	}
	for _, n := range []int{0, -1, -2, 3, 4, 1<<32 + 1, -1<<32 + 1, most, math.MinInt, math.MaxInt} {
		wantFor(t, l, n, 0)
		wantFor(t, nil, n, 0)
		wantFor(t, []api.Wait{}, n, 0)
	}
	wantFor(t, by(most, 1), most, 1)
	wantFor(t, by(1, most), 1, most)
	for _, s := range goodWaits() {
		t.Run(s.name, func(t *testing.T) {
			for _, w := range s.l {
				wantFor(t, s.l, w.Who, w.For)
			}
			for _, n := range near(s.l) {
				wantFor(t, s.l, n, slowFor(s.l, n))
			}
		})
	}
}

// others are waits that are each other than by(1, 2, 2, 3, 5, 3).
func others() []sample {
	return []sample{
		{"nothing", nil},
		{"one fewer", by(1, 2, 2, 3)},
		{"the first one missing", by(2, 3, 5, 3)},
		{"the middle one missing", by(1, 2, 5, 3)},
		{"one more", by(1, 2, 2, 3, 5, 3, 6, 3)},
		{"one more, of nobody", by(1, 2, 2, 3, 5, 3, 0, 0)},
		{"one more, ahead", by(6, 3, 1, 2, 2, 3, 5, 3)},
		{"the last one twice", by(1, 2, 2, 3, 5, 3, 5, 3)},
		{"the first Who", by(4, 2, 2, 3, 5, 3)},
		{"the middle Who", by(1, 2, 4, 3, 5, 3)},
		{"the last Who", by(1, 2, 2, 3, 6, 3)},
		{"the first Holder", by(1, 3, 2, 3, 5, 3)},
		{"the middle Holder", by(1, 2, 2, 4, 5, 3)},
		{"the last Holder", by(1, 2, 2, 3, 5, 4)},
		{"a Who far off", by(1, 2, 2+1<<32, 3, 5, 3)},
		{"a Holder far off", by(1, 2, 2, 3+1<<32, 5, 3)},
		{"a Who below 0", by(-1, 2, 2, 3, 5, 3)},
		{"the sides the other way round", by(2, 1, 3, 2, 3, 5)},
		{"another order", by(2, 3, 1, 2, 5, 3)},
		{"the last two turned", by(1, 2, 5, 3, 2, 3)},
		{"backwards", by(5, 3, 2, 3, 1, 2)},
	}
}

// Wt2: waits are alike that are the same, one by one in their order; those that may not be are held against each other likewise.
func TestSame(t *testing.T) {
	l := by(1, 2, 2, 3, 5, 3)
	for _, o := range others() {
		if Same(l, o.l) || Same(o.l, l) {
			t.Errorf("%s: alike", o.name)
		}
	}
	all := slices.Concat(goodWaits(), badWaits(), others(), []sample{{"itself", l}})
	for _, a := range all {
		if !Same(a.l, a.l) || !Same(a.l, slices.Clone(a.l)) || !Same(slices.Clone(a.l), a.l) {
			t.Errorf("%s: not alike itself", a.name)
		}
		for _, b := range all {
			if Same(a.l, b.l) != alike(a.l, b.l) {
				t.Errorf("%s, %s: Same = %t", a.name, b.name, Same(a.l, b.l))
			}
		}
	}
}

// Wt2: of no waits nil and the empty list are the same; what lies behind the end does not count.
func TestSameOfNone(t *testing.T) {
	none, room := []api.Wait{}, by(1, 2, 2, 3)[:0]
	for _, a := range [][]api.Wait{nil, none, room} {
		for _, b := range [][]api.Wait{nil, none, room} {
			if !Same(a, b) {
				t.Errorf("%#v and %#v: not alike", a, b)
			}
		}
		if Same(a, by(1, 2)) || Same(by(1, 2), a) || Same(a, by(0, 0)) || Same(by(0, 0), a) {
			t.Errorf("%#v: alike one wait", a)
		}
	}
	long, cut := by(1, 2, 2, 3, 5, 3)[:2], by(1, 2, 2, 3)
	if !Same(long, cut) || !Same(cut, long) {
		t.Error("what lies behind the end counts")
	}
}

// some is one of a few numbers, most of them small, some at the edges, few beyond.
func some(r *rand.Rand, small int) int {
	switch r.IntN(40) {
	case 0:
		return []int{0, -1, -2, -1 << 32, math.MinInt}[r.IntN(5)]
	case 1:
		return []int{most + 1, 1 << 32, 1<<32 + 3, math.MaxInt}[r.IntN(4)]
	case 2:
		return []int{1, 2, most - 1, most}[r.IntN(4)]
	}
	return 1 + r.IntN(small)
}

// Wt1, Wt2: strewn waits and calls are held against the chapter's words.
func TestStrewn(t *testing.T) {
	r := rand.New(rand.NewPCG(18, 8))
	told := map[string]int{}
	for range 40000 {
		small := []int{5, 12, 100}[r.IntN(3)]
		var l []api.Wait
		for range r.IntN(6) {
			l = append(l, by(some(r, small), some(r, small))...)
		}
		wantCheck(t, l, slowCheck(l))
		who, holder := some(r, small), some(r, small)
		want, why := slowAdd(l, who, holder)
		wantAdd(t, l, who, holder, want, why)
		wantDrop(t, l, who, slowDrop(l, who))
		wantOn(t, l, holder, slowOn(l, holder)...)
		wantFor(t, l, who, slowFor(l, who))
		told[fmt.Sprint("add ", why)]++
		told[fmt.Sprint("on ", min(len(slowOn(l, holder)), 2))]++
		told[fmt.Sprint("for ", slowFor(l, who) != 0)]++
		told[fmt.Sprint("check ", slowCheck(l), len(l) > 2)]++
	}
	for _, what := range []string{"add 0", "add 1", "add 2", "add 15", "on 0", "on 1", "on 2", "for true", "for false", "check 0 true", "check 0 false", "check 1 true", "check 1 false"} {
		if told[what] < 500 {
			t.Errorf("%s: too few to tell: %v", what, told)
		}
	}
}

// forest is so many waits, each for one further on in a strewn order, so that there is no circle.
func forest(r *rand.Rand, n int) []api.Wait {
	order := r.Perm(n + 1 + r.IntN(10))
	var l []api.Wait
	for i := range n {
		ahead := i + 1 + r.IntN(min(len(order)-i-1, 1+r.IntN(20)))
		l = append(l, by(order[i]+1, order[ahead]+1)...)
	}
	return shuffled(l, r)
}

// Wt1: strewn waits of many, with and without circles, are held against the chapter's words.
func TestStrewnForests(t *testing.T) {
	r := rand.New(rand.NewPCG(18, 9))
	told := map[string]int{}
	for range 2500 {
		l := forest(r, min(1+r.IntN(80), 64))
		wantCheck(t, l, api.OK)
		for range 4 {
			who, holder := 1+r.IntN(90), 1+r.IntN(90)
			want, why := slowAdd(l, who, holder)
			wantAdd(t, l, who, holder, want, why)
			told[fmt.Sprint("add ", why)]++
		}
		l[r.IntN(len(l))].For = l[r.IntN(len(l))].Who
		wantCheck(t, l, slowCheck(l))
		told[fmt.Sprint("check ", slowCheck(l))]++
	}
	for _, what := range []string{"add 0", "add 2", "add 15", "add 12", "check 0", "check 1"} {
		if told[what] < 40 {
			t.Errorf("%s: too few to tell: %v", what, told)
		}
	}
}

// wantFree is what follows: there is no circle, and if somebody waits, somebody is waited for who does not.
func wantFree(t *testing.T, l []api.Wait) {
	t.Helper()
	wantCheck(t, l, api.OK)
	free := 0
	for _, w := range l {
		if For(l, w.For) == 0 && len(On(l, w.For)) > 0 {
			free++
		}
		if reaches(l, w.Who, w.Who) {
			t.Fatalf("%v: %d waits for itself", l, w.Who)
		}
	}
	if len(l) > 0 && free == 0 {
		t.Fatalf("%v: all that are waited for wait", l)
	}
}

// Wt3: all runs of a few calls, among three and among four that wait.
func TestAllRuns(t *testing.T) {
	told := map[api.Errno]int{}
	var onward func(l []api.Wait, people, calls int)
	onward = func(l []api.Wait, people, calls int) {
		wantFree(t, l)
		if calls == 0 {
			return
		}
		for who := 1; who <= people; who++ {
			for holder := 1; holder <= people; holder++ {
				next, e := Add(l, who, holder)
				told[e]++
				want, why := slowAdd(l, who, holder)
				if !alike(next, want) || e != why {
					t.Fatalf("Add(%v, %d, %d) = %v, error %d", l, who, holder, next, e)
				}
				if e == api.OK {
					onward(next, people, calls-1)
				}
			}
			if next := Drop(l, who); len(next) < len(l) {
				onward(next, people, calls-1)
			}
		}
	}
	onward(nil, 3, 5)
	onward(nil, 4, 4)
	if told[api.OK] < 1000 || told[api.ErrOp] < 1000 || told[api.ErrDead] < 1000 {
		t.Errorf("too few to tell: %v", told)
	}
}

// Wt3: strewn runs of Add and Drop, of few and of many, till there is no room and behind that.
func TestStrewnRuns(t *testing.T) {
	r := rand.New(rand.NewPCG(18, 10))
	told := map[string]int{}
	for range 60 {
		people := []int{4, 10, 80, 2000}[r.IntN(4)]
		drops := 2 + r.IntN(12)
		var l []api.Wait
		for range 150 {
			who, holder := 1+r.IntN(people), 1+r.IntN(people)
			if r.IntN(drops) == 0 {
				told["drop "+fmt.Sprint(slowFor(l, who) != 0)]++
				want := slowDrop(l, who)
				wantDrop(t, l, who, want)
				l = Drop(l, who)
			} else {
				want, why := slowAdd(l, who, holder)
				wantAdd(t, l, who, holder, want, why)
				l, _ = Add(l, who, holder)
				told["add "+fmt.Sprint(why)]++
			}
			wantFree(t, l)
		}
	}
	for _, what := range []string{"add 0", "add 2", "add 15", "add 12", "drop true", "drop false"} {
		if told[what] < 100 {
			t.Errorf("%s: too few to tell: %v", what, told)
		}
	}
}

// spoil writes over a list, its spare room too.
func spoil[T any](l []T, with T) {
	l = l[:cap(l)]
	for i := range l {
		l[i] = with
	}
}

// roomy is a list with something behind its end.
func roomy(l []api.Wait) []api.Wait {
	return slices.Concat(l, by(31, 32, 33, 34, 35, 36))[:len(l)]
}

// wantOwn makes a call twice that tells waits, and holds it to what R3 says.
func wantOwn(t *testing.T, name string, l, want []api.Wait, call func(l []api.Wait) []api.Wait) {
	t.Helper()
	bad := api.Wait{Who: -7, For: -8}
	handed := roomy(l)
	whole := slices.Clone(handed[:cap(handed)])
	first, second := call(handed), call(handed)
	if !alike(handed[:cap(handed)], whole) {
		t.Fatalf("%s of %v turned what it was handed into %v", name, l, handed[:cap(handed)])
	}
	spoil(first, bad)
	if !alike(handed[:cap(handed)], whole) || !alike(second, want) {
		t.Fatalf("%s of %v: what is told shares memory", name, l)
	}
	spoil(handed, bad)
	if !alike(second, want) {
		t.Fatalf("%s of %v hangs on what was handed in: %v", name, l, second)
	}
}

// R3: what Add and Drop are handed is left, with what lies behind its end; the waits that are told share no memory with it, or with others, beside an error neither.
func TestWaitsOwn(t *testing.T) {
	told := map[api.Errno]int{}
	for _, s := range slices.Concat(goodWaits(), badWaits(), others()) {
		t.Run(s.name, func(t *testing.T) {
			for _, who := range []int{1, 2, 3, 32, 64, 65, 66, 500, most, 0, -1} {
				wantOwn(t, fmt.Sprint("Drop ", who), s.l, slowDrop(s.l, who), func(l []api.Wait) []api.Wait { return Drop(l, who) })
				for _, holder := range []int{1, 2, 40, 65, 500, 600, 0} {
					want, why := slowAdd(s.l, who, holder)
					told[why]++
					wantOwn(t, fmt.Sprint("Add ", who, holder), s.l, want, func(l []api.Wait) []api.Wait {
						next, _ := Add(l, who, holder)
						return next
					})
				}
			}
		})
	}
	for _, why := range []api.Errno{api.OK, api.ErrArg, api.ErrOp, api.ErrDead, api.ErrSlot} {
		if told[why] < 20 {
			t.Errorf("error %d: too few to tell: %v", why, told)
		}
	}
}

// R3: what On tells is its own each time; the waits are left.
func TestOnOwn(t *testing.T) {
	for _, s := range slices.Concat(goodWaits(), badWaits(), others()) {
		for _, n := range near(s.l) {
			l := roomy(s.l)
			whole := slices.Clone(l[:cap(l)])
			first, second := On(l, n), On(l, n)
			spoil(first, -7)
			spoil(l[:0:len(l)], api.Wait{Who: n, For: n})
			if !slices.Equal(second, slowOn(s.l, n)) || !alike(l[len(l):cap(l)], whole[len(l):]) {
				t.Fatalf("%s: On %d shares memory: %v", s.name, n, second)
			}
		}
	}
}

// R3: what is only asked is left, with what lies behind its end.
func TestAsksLeave(t *testing.T) {
	other := by(1, 2, 2, 3, 5, 3)
	for _, s := range slices.Concat(goodWaits(), badWaits(), others()) {
		l := roomy(s.l)
		whole := slices.Clone(l[:cap(l)])
		Check(l)
		Same(l, other)
		Same(other, l)
		for _, n := range near(l) {
			For(l, n)
			On(l, n)
		}
		if !alike(l[:cap(l)], whole) {
			t.Errorf("%s was turned into %v", s.name, l[:cap(l)])
		}
	}
	if !alike(other, by(1, 2, 2, 3, 5, 3)) {
		t.Errorf("turned into %v", other)
	}
}

// R4: asked again, behind an error too, the same is told.
func TestAgain(t *testing.T) {
	samples := slices.Concat(goodWaits(), badWaits(), others())
	tell := func(s sample) string {
		told := fmt.Sprint(Check(s.l), Same(s.l, by(1, 2)))
		for _, n := range near(s.l[:min(len(s.l), 5)]) {
			told += fmt.Sprint(Drop(s.l, n), On(s.l, n), For(s.l, n))
			next, e := Add(s.l, n, 500)
			told += fmt.Sprint(next, e)
			next, e = Add(s.l, 500, n)
			told += fmt.Sprint(next, e)
		}
		return told
	}
	var first []string
	for _, s := range samples {
		first = append(first, tell(s))
	}
	for i := len(samples) - 1; i >= 0; i-- {
		if again := tell(samples[i]); again != first[i] {
			t.Errorf("%s: %s, then %s", samples[i].name, first[i], again)
		}
	}
}
