package view

import (
	"fmt"
	"math"
	"math/rand/v2"
	"slices"
	"testing"

	"humus/api"
)

const most = 1<<31 - 1 // what the document calls MaxCount, as it is written down there

// by is a view of these parts.
func by(self, next int, active ...int) api.View {
	return api.View{Self: self, Next: next, Active: active}
}

// run is so many numbers, one behind the other.
func run(from, n int) []int {
	var l []int
	for i := range n {
		l = append(l, from+i)
	}
	return l
}

// every is so many numbers, with a step between them.
func every(from, step, n int) []int {
	var l []int
	for i := range n {
		l = append(l, from+i*step)
	}
	return l
}

func backwards(l []int) []int {
	l = slices.Clone(l)
	slices.Reverse(l)
	return l
}

// clone is a view in memory of its own.
func clone(v api.View) api.View {
	v.Active = slices.Clone(v.Active)
	return v
}

// alike goes by the parts, one after the other: what is told must not hang on Same.
func alike(a, b api.View) bool {
	if a.Self != b.Self || a.Next != b.Next || len(a.Active) != len(b.Active) {
		return false
	}
	for i := range a.Active {
		if a.Active[i] != b.Active[i] {
			return false
		}
	}
	return true
}

// slowCheck goes by the chapter's words.
func slowCheck(v api.View) api.Errno {
	good := 0 <= v.Self && v.Self <= most && 0 <= v.Next && v.Next <= most && len(v.Active) <= 64
	for i, a := range v.Active {
		good = good && 1 <= a && a <= v.Next-1 && a != v.Self
		for _, ahead := range v.Active[:i] {
			good = good && ahead < a
		}
	}
	if good {
		return api.OK
	}
	return api.ErrArg
}

// slowOf puts each number into its place by going through those that are there.
func slowOf(self, next int, live []int) (api.View, api.Errno) {
	v := api.View{Self: self, Next: next}
	good := true
	for _, n := range live {
		good = good && n >= 1
		if n >= next || n == self {
			continue
		}
		less, there := 0, false
		for _, a := range v.Active {
			if a < n {
				less++
			}
			there = there || a == n
		}
		if !there {
			v.Active = slices.Insert(v.Active, less, n)
		}
	}
	if !good || slowCheck(v) != api.OK {
		return api.View{}, api.ErrArg
	}
	return v, api.OK
}

// slowSees asks the chapter's questions, each of them.
func slowSees(v api.View, writer int) bool {
	active := 0
	for _, a := range v.Active {
		if a == writer {
			active++
		}
	}
	own := writer == v.Self && v.Self != 0
	ever := writer == 0
	ahead := writer < v.Next && active == 0
	return slowCheck(v) == api.OK && writer >= 0 && (own || ever || ahead)
}

func slowAll(l []api.View, writer int) bool {
	blind := 0
	for _, v := range l {
		if !slowSees(v, writer) {
			blind++
		}
	}
	return blind == 0
}

func wantCheck(t *testing.T, v api.View, want api.Errno) {
	t.Helper()
	if slow := slowCheck(v); slow != want {
		t.Fatalf("the words say of %v: error %d, not %d", v, slow, want)
	}
	if got := Check(v); got != want {
		t.Fatalf("Check(%v) = %d, not %d", v, got, want)
	}
}

func wantOf(t *testing.T, self, next int, live []int, want api.View, why api.Errno) {
	t.Helper()
	if slow, e := slowOf(self, next, live); !alike(slow, want) || e != why {
		t.Fatalf("the words say of (%d, %d, %v): %v, error %d, not %v, %d", self, next, live, slow, e, want, why)
	}
	got, e := Of(self, next, live)
	if !alike(got, want) || e != why {
		t.Fatalf("Of(%d, %d, %v) = %v, error %d, not %v, %d", self, next, live, got, e, want, why)
	}
	if e == api.OK && Check(got) != api.OK {
		t.Fatalf("Of(%d, %d, %v) = %v, which may not be", self, next, live, got)
	}
}

func wantSees(t *testing.T, v api.View, writer int, want bool) {
	t.Helper()
	if slow := slowSees(v, writer); slow != want {
		t.Fatalf("the words say of %v and %d: %t", v, writer, slow)
	}
	if got := Sees(v, writer); got != want {
		t.Fatalf("Sees(%v, %d) = %t", v, writer, got)
	}
}

func wantAll(t *testing.T, l []api.View, writer int, want bool) {
	t.Helper()
	if slow := slowAll(l, writer); slow != want {
		t.Fatalf("the words say of %v and %d: %t", l, writer, slow)
	}
	if got := All(l, writer); got != want {
		t.Fatalf("All(%v, %d) = %t", l, writer, got)
	}
}

// sample is a view with a name.
type sample struct {
	name string
	v    api.View
}

// goodViews are views at the edges of what may be.
func goodViews() []sample {
	return []sample{
		{"the zero one", api.View{}},
		{"none, not nil", api.View{Active: []int{}}},
		{"nobody's, of the first ones", by(0, 1)},
		{"of 1 at 1", by(1, 1)},
		{"of 1 at 2", by(1, 2)},
		{"self at next", by(8, 8, 5)},
		{"self beyond next", by(9, 8, 5)},
		{"self far beyond next", by(most, 8, 5)},
		{"self, and next 0", by(9, 0)},
		{"both greatest", by(most, most)},
		{"both greatest, and the number ahead", by(most, most, most-1)},
		{"next greatest", by(0, most, 1, most-1)},
		{"active 1", by(7, 8, 1)},
		{"active next-1", by(6, 8, 7)},
		{"active 1 alone below 2", by(0, 2, 1)},
		{"two side by side", by(7, 8, 4, 5)},
		{"around self", by(7, 9, 6, 8)},
		{"the example's", by(7, 8, 5)},
		{"63 numbers", by(0, 65, run(1, 63)...)},
		{"64 numbers", by(65, 66, run(1, 64)...)},
		{"64 numbers to next-1", by(0, 65, run(1, 64)...)},
		{"64 numbers around self", by(33, 66, append(run(1, 32), run(34, 32)...)...)},
		{"64 numbers far off", by(most, most, run(most-64, 64)...)},
		{"64 numbers strewn", by(2, 1000, every(3, 15, 64)...)},
	}
}

// badViews are views that may not be.
func badViews() []sample {
	l := []sample{
		{"two alike", by(7, 8, 5, 5)},
		{"two alike at the end", by(7, 8, 3, 5, 5)},
		{"two alike of 64", by(70, 80, append(run(1, 63), 63)...)},
		{"two that fall", by(7, 8, 5, 4)},
		{"two that fall, at the start", by(7, 9, 2, 1, 8)},
		{"two that fall, at the end", by(7, 9, 1, 8, 6)},
		{"the first of 64 behind", by(70, 80, append(run(2, 63), 1)...)},
		{"0", by(7, 8, 0)},
		{"0 ahead of one", by(7, 8, 0, 5)},
		{"0 of self 0", by(0, 8, 0)},
		{"-1", by(7, 8, -1)},
		{"-1 ahead of one", by(7, 8, -1, 5)},
		{"the least number there is", by(7, 8, math.MinInt, 5)},
		{"next", by(7, 8, 8)},
		{"next behind one", by(7, 8, 5, 8)},
		{"beyond next", by(7, 8, 9)},
		{"far beyond next", by(7, 8, 5, most)},
		{"beyond all", by(7, most, 5, most)},
		{"the greatest number there is", by(7, 8, 5, math.MaxInt)},
		{"self", by(7, 8, 7)},
		{"self behind one", by(7, 8, 5, 7)},
		{"self ahead of one", by(5, 8, 5, 6)},
		{"self in the middle", by(5, 8, 4, 5, 6)},
		{"self of 64", by(64, 80, run(1, 64)...)},
		{"one, and next 0", by(7, 0, 1)},
		{"0, and next 0", by(7, 0, 0)},
		{"one, and next 1", by(7, 1, 1)},
		{"65 numbers", by(66, 67, run(1, 65)...)},
		{"65 numbers to next-1", by(0, 66, run(1, 65)...)},
		{"65 numbers strewn", by(2, 1000, every(3, 15, 65)...)},
		{"66 numbers", by(0, 67, run(1, 66)...)},
		{"1000 numbers", by(0, 2000, run(1, 1000)...)},
	}
	for _, n := range []int{-1, -2, most + 1, most + 2, 1 << 32, 1<<32 + 9, -1 << 32, math.MinInt, math.MinInt + 9, math.MaxInt} {
		l = append(l,
			sample{fmt.Sprintf("self %d", n), by(n, 8, 5)},
			sample{fmt.Sprintf("self %d, none active", n), by(n, 8)},
			sample{fmt.Sprintf("next %d", n), by(7, n)},
			sample{fmt.Sprintf("next %d, one active", n), by(7, n, 1)},
			sample{fmt.Sprintf("next %d of self 0", n), by(0, n)},
			sample{fmt.Sprintf("both %d", n), by(n, n)})
	}
	return l
}

// writers are those that are asked of a view: at its edges, and far off.
func writers(v api.View) []int {
	l := []int{math.MinInt, math.MinInt + 1, -1 << 32, -2, -1, 0, 1, 2, 3, 4, 5, 6, 7, 8, 9, 64, 65, 66, 67, most - 1, most, most + 1, 1 << 32, 1<<32 + 5, math.MaxInt}
	near := append([]int{v.Self, v.Next}, v.Active...)
	for _, n := range near[:min(len(near), 70)] { // of a thousand numbers the first ones do
		l = append(l, n-1, n, n+1, n+1<<32, n-1<<32, -n)
	}
	return l
}

// The chapter's example: it sees 6 and 7, not 5, nor 8.
func TestExample(t *testing.T) {
	v, e := Of(7, 8, []int{5})
	if e != api.OK || !alike(v, by(7, 8, 5)) {
		t.Fatalf("Of = %v, error %d", v, e)
	}
	for _, w := range []int{6, 7} {
		if !Sees(v, w) {
			t.Errorf("%d is not seen", w)
		}
	}
	for _, w := range []int{5, 8} {
		if Sees(v, w) {
			t.Errorf("%d is seen", w)
		}
	}
}

// Vw1: Check of views that may be.
func TestCheckOfGood(t *testing.T) {
	for _, s := range goodViews() {
		t.Run(s.name, func(t *testing.T) { wantCheck(t, s.v, api.OK) })
	}
}

// Vw1: Check of views that may not be; Vw2: those see nobody, their own and 0 neither.
func TestBad(t *testing.T) {
	for _, s := range badViews() {
		t.Run(s.name, func(t *testing.T) {
			wantCheck(t, s.v, api.ErrArg)
			for _, w := range writers(s.v) {
				wantSees(t, s.v, w, false)
				wantAll(t, []api.View{s.v}, w, false)
				wantAll(t, []api.View{s.v, by(w, 8)}, w, false)
				wantAll(t, []api.View{by(w, 8), s.v}, w, false)
			}
		})
	}
}

// Vw1: Check at the edges of Self and Next: -1, 0, MaxCount, one more.
func TestCheckEdges(t *testing.T) {
	for _, self := range []int{-1, 0, 1, most - 1, most, most + 1} {
		for _, next := range []int{-1, 0, 1, most - 1, most, most + 1} {
			want := api.OK
			if self == -1 || self == most+1 || next == -1 || next == most+1 {
				want = api.ErrArg
			}
			wantCheck(t, by(self, next), want)
			wantCheck(t, api.View{Self: self, Next: next, Active: []int{}}, want)
		}
	}
}

// Vw1: one number at each place around 0, Self and Next.
func TestCheckOfOne(t *testing.T) {
	for self := range 12 {
		for next := range 12 {
			for a := -3; a < 14; a++ {
				want := api.ErrArg
				if a >= 1 && a < next && a != self {
					want = api.OK
				}
				wantCheck(t, by(self, next, a), want)
			}
		}
	}
}

// Vw1: of so many numbers up to 64 may be, wherever they lie; a fault at any of their places is told.
func TestCheckOfMany(t *testing.T) {
	for n := range 130 {
		want := api.OK
		if n > 64 {
			want = api.ErrArg
		}
		wantCheck(t, by(0, 500, run(1, n)...), want)
		wantCheck(t, by(500, 500, every(3, 3, n)...), want)
		wantCheck(t, by(most, most, run(most-n, n)...), want)
	}
	good := by(500, 400, every(3, 3, 64)...)
	for at := range good.Active {
		for _, a := range []int{math.MinInt, -1, 0, 400, 401, 500, most, math.MaxInt} {
			v := clone(good)
			v.Active[at] = a
			wantCheck(t, v, api.ErrArg)
		}
		v := clone(good)
		v.Self = v.Active[at]
		wantCheck(t, v, api.ErrArg)
		v.Self++
		wantCheck(t, v, api.OK)
		if at > 0 {
			v.Active[at] = v.Active[at-1]
			wantCheck(t, v, api.ErrArg)
			v.Active[at]++
			wantCheck(t, v, api.OK)
			v.Active[at] -= 2
			wantCheck(t, v, api.ErrArg)
		}
	}
}

// Vw1: Of with live numbers of all sorts.
func TestOf(t *testing.T) {
	wantOf(t, 7, 8, nil, by(7, 8), api.OK)
	wantOf(t, 7, 8, []int{}, by(7, 8), api.OK)
	wantOf(t, 0, 0, nil, by(0, 0), api.OK)
	wantOf(t, 0, 0, []int{1, 2}, by(0, 0), api.OK)
	wantOf(t, 7, 8, []int{5}, by(7, 8, 5), api.OK)
	wantOf(t, 7, 8, []int{5, 3}, by(7, 8, 3, 5), api.OK)
	wantOf(t, 7, 8, []int{3, 5}, by(7, 8, 3, 5), api.OK)
	wantOf(t, 7, 8, []int{5, 5}, by(7, 8, 5), api.OK)
	wantOf(t, 7, 8, []int{5, 3, 5, 9}, by(7, 8, 3, 5), api.OK)
	wantOf(t, 7, 8, []int{3, 5, 3, 5, 3}, by(7, 8, 3, 5), api.OK)
	wantOf(t, 7, 8, []int{6, 1, 4, 1, 6, 2}, by(7, 8, 1, 2, 4, 6), api.OK)
	wantOf(t, 7, 8, []int{8}, by(7, 8), api.OK)
	wantOf(t, 7, 8, []int{9, 10, most, most + 1, 1 << 32, math.MaxInt}, by(7, 8), api.OK)
	wantOf(t, 6, 8, []int{8, 7, 9}, by(6, 8, 7), api.OK)
	wantOf(t, 7, 8, []int{7}, by(7, 8), api.OK)
	wantOf(t, 5, 8, []int{7, 5, 3, 5}, by(5, 8, 3, 7), api.OK)
	wantOf(t, 9, 8, []int{9, 7, 10}, by(9, 8, 7), api.OK)
	wantOf(t, 0, 2, []int{1}, by(0, 2, 1), api.OK)
	wantOf(t, 0, 1, []int{1}, by(0, 1), api.OK)
	wantOf(t, 1, 1, []int{1, 2}, by(1, 1), api.OK)
	wantOf(t, most, most, []int{most, most - 1, 1}, by(most, most, 1, most-1), api.OK)
	wantOf(t, 0, most, []int{most, most - 1, math.MaxInt, 1<<32 + 5}, by(0, most, most-1), api.OK)
}

// Vw1: Of of each few numbers in each order, twice and once.
func TestOfOrders(t *testing.T) {
	for self := range 6 {
		for next := range 7 {
			for a := range 7 {
				for b := range 7 {
					for c := range 7 {
						live := []int{a, b, c}
						want, why := slowOf(self, next, live)
						wantOf(t, self, next, live, want, why)
						if (why == api.ErrArg) != (a == 0 || b == 0 || c == 0) {
							t.Fatalf("(%d, %d, %v): error %d", self, next, live, why)
						}
					}
				}
			}
		}
	}
}

// Vw1: Of of many: 64 that stay may be, 65 may not, however many are left out, or are there twice.
func TestOfMany(t *testing.T) {
	full := by(500, 400, run(1, 64)...)
	twice := slices.Concat(run(1, 64), backwards(run(1, 64)), run(1, 64))
	wantOf(t, 500, 400, run(1, 64), full, api.OK)
	wantOf(t, 500, 400, backwards(run(1, 64)), full, api.OK)
	wantOf(t, 500, 400, twice, full, api.OK)
	wantOf(t, 500, 400, slices.Concat(run(400, 200), twice, run(most, 100)), full, api.OK)
	wantOf(t, 500, 65, run(1, 1000), by(500, 65, run(1, 64)...), api.OK)
	wantOf(t, 500, 65, backwards(run(1, 1000)), by(500, 65, run(1, 64)...), api.OK)
	wantOf(t, 500, 66, run(1, 1000), api.View{}, api.ErrArg)
	wantOf(t, 500, 66, run(1, 65), api.View{}, api.ErrArg)
	wantOf(t, 65, 66, run(1, 65), by(65, 66, run(1, 64)...), api.OK)
	wantOf(t, 1, 66, run(1, 65), by(1, 66, run(2, 64)...), api.OK)
	wantOf(t, 33, 66, backwards(run(1, 65)), by(33, 66, append(run(1, 32), run(34, 32)...)...), api.OK)
	wantOf(t, 33, 66, backwards(run(1, 66)), by(33, 66, append(run(1, 32), run(34, 32)...)...), api.OK)
	wantOf(t, 33, 67, run(1, 66), api.View{}, api.ErrArg)
	wantOf(t, 500, 400, run(1, 65), api.View{}, api.ErrArg)
	wantOf(t, 500, 400, append(twice, 65), api.View{}, api.ErrArg)
	wantOf(t, 500, 400, append([]int{399}, twice...), api.View{}, api.ErrArg)
	wantOf(t, 500, 400, append(twice, 400, 500), full, api.OK)
	wantOf(t, 0, most, every(1, 1<<20, 64), by(0, most, every(1, 1<<20, 64)...), api.OK)
	wantOf(t, 0, most, every(1, 1<<20, 65), api.View{}, api.ErrArg)
	wantOf(t, 500, 400, slices.Repeat([]int{7}, 100000), by(500, 400, 7), api.OK)
	wantOf(t, 500, 400, run(400, 100000), by(500, 400), api.OK)
}

// Vw1: Of with a number below 1 is ErrArg, also where that would be left out.
func TestOfBelowOne(t *testing.T) {
	for _, n := range []int{0, -1, -2, -5, -most, -1 << 32, math.MinInt} {
		for _, next := range []int{0, 1, 8, most} {
			wantOf(t, 7, next, []int{n}, api.View{}, api.ErrArg)
			wantOf(t, 7, next, []int{n, 5}, api.View{}, api.ErrArg)
			wantOf(t, 7, next, []int{5, n, 3}, api.View{}, api.ErrArg)
			wantOf(t, 7, next, []int{9, 7, n}, api.View{}, api.ErrArg)
			wantOf(t, 0, next, []int{n}, api.View{}, api.ErrArg)
			wantOf(t, n, next, []int{n}, api.View{}, api.ErrArg)
			wantOf(t, 7, n, []int{n}, api.View{}, api.ErrArg)
			wantOf(t, 500, next, append(run(500, 100), n), api.View{}, api.ErrArg)
		}
	}
}

// Vw1: Of with self or next out of their bounds, and at them.
func TestOfEdges(t *testing.T) {
	for _, n := range []int{-1, -2, -most, most + 1, most + 2, 1 << 32, 1<<32 + 8, -1 << 32, math.MinInt, math.MaxInt} {
		for _, live := range [][]int{nil, {5}, {5, 3, 9}, {7}, {most}} {
			wantOf(t, n, 8, live, api.View{}, api.ErrArg)
			wantOf(t, 7, n, live, api.View{}, api.ErrArg)
			wantOf(t, 0, n, live, api.View{}, api.ErrArg)
			wantOf(t, n, 0, live, api.View{}, api.ErrArg)
			wantOf(t, n, n, live, api.View{}, api.ErrArg)
		}
	}
	for _, n := range []int{0, 1, most - 1, most} {
		wantOf(t, n, 8, []int{5}, by(n, 8, 5), api.OK)
		wantOf(t, 7, n, nil, by(7, n), api.OK)
		wantOf(t, n, n, nil, by(n, n), api.OK)
	}
}

// Vw1: Of what a view that may be says is that view.
func TestOfItself(t *testing.T) {
	for _, s := range goodViews() {
		t.Run(s.name, func(t *testing.T) {
			wantOf(t, s.v.Self, s.v.Next, s.v.Active, s.v, api.OK)
			wantOf(t, s.v.Self, s.v.Next, append(backwards(s.v.Active), s.v.Next+1, s.v.Next+2), s.v, api.OK)
			if s.v.Self > 0 {
				wantOf(t, s.v.Self, s.v.Next, append([]int{s.v.Self}, s.v.Active...), s.v, api.OK)
			}
		})
	}
}

// others are views that are each other than by(7, 9, 3, 5, 8).
func others() []sample {
	return []sample{
		{"the zero one", api.View{}},
		{"self", by(6, 9, 3, 5, 8)},
		{"self 0", by(0, 9, 3, 5, 8)},
		{"self far off", by(7+1<<32, 9, 3, 5, 8)},
		{"next", by(7, 10, 3, 5, 8)},
		{"next far off", by(7, 9+1<<32, 3, 5, 8)},
		{"self and next the other way round", by(9, 7, 3, 5, 8)},
		{"the first number", by(7, 9, 2, 5, 8)},
		{"the middle number", by(7, 9, 3, 4, 8)},
		{"the last number", by(7, 9, 3, 5, 6)},
		{"a number far off", by(7, 9, 3, 5+1<<32, 8)},
		{"one more", by(7, 9, 3, 5, 8, 9)},
		{"one more, ahead", by(7, 9, 1, 3, 5, 8)},
		{"one fewer", by(7, 9, 3, 5)},
		{"the first one missing", by(7, 9, 5, 8)},
		{"one alone", by(7, 9, 3)},
		{"none", by(7, 9)},
		{"another order", by(7, 9, 5, 3, 8)},
	}
}

// Vw1: views are alike that have the same Self, Next and Active; those that may not be are held against each other likewise.
func TestSame(t *testing.T) {
	v := by(7, 9, 3, 5, 8)
	for _, o := range others() {
		if Same(v, o.v) || Same(o.v, v) {
			t.Errorf("%s: alike", o.name)
		}
	}
	all := slices.Concat(goodViews(), badViews(), others(), []sample{{"itself", v}})
	for _, a := range all {
		if !Same(a.v, a.v) || !Same(a.v, clone(a.v)) || !Same(clone(a.v), a.v) {
			t.Errorf("%s: not alike itself", a.name)
		}
		for _, b := range all {
			if Same(a.v, b.v) != alike(a.v, b.v) {
				t.Errorf("%s, %s: Same = %t", a.name, b.name, Same(a.v, b.v))
			}
		}
	}
}

// Vw1: of no numbers nil and the empty list are the same; room behind the numbers does not count.
func TestSameOfNone(t *testing.T) {
	none, room := api.View{Self: 7, Next: 8, Active: []int{}}, api.View{Self: 7, Next: 8, Active: []int{5, 6}[:0]}
	for _, a := range []api.View{by(7, 8), none, room} {
		for _, b := range []api.View{by(7, 8), none, room} {
			if !Same(a, b) {
				t.Errorf("%#v and %#v: not alike", a, b)
			}
		}
		if Same(a, by(7, 8, 5)) || Same(by(7, 8, 5), a) || Same(a, by(7, 8, 0)) || Same(by(7, 8, 0), a) {
			t.Errorf("%#v: alike one of a number", a)
		}
	}
	long, cut := by(7, 9, 3, 5, 8), by(7, 9, 3, 5)
	long.Active = long.Active[:2]
	if !Same(long, cut) || !Same(cut, long) {
		t.Error("what lies behind the end counts")
	}
}

// Vw2: whom a view sees, at each edge.
func TestSees(t *testing.T) {
	v := by(7, 10, 3, 5, 9)
	for w, want := range map[int]bool{
		math.MinInt: false, -1 << 32: false, -7: false, -3: false, -1: false,
		0: true, 1: true, 2: true, 3: false, 4: true, 5: false, 6: true, 7: true, 8: true, 9: false,
		10: false, 11: false, most: false, most + 1: false, 1 << 32: false, 1<<32 + 1: false, 1<<32 + 7: false, math.MaxInt: false,
	} {
		wantSees(t, v, w, want)
	}
}

// Vw2: its own writer is seen at Next and beyond too, but nobody else there.
func TestSeesSelf(t *testing.T) {
	for _, next := range []int{0, 1, 4, 8, most} {
		for _, self := range []int{1, 3, 4, 5, 8, 9, most - 1, most} {
			v := by(self, next)
			wantSees(t, v, self, true)
			wantSees(t, v, self+1<<32, false)
			wantSees(t, v, -self, false)
			for _, w := range []int{next, next + 1, next + 2} {
				wantSees(t, v, w, w == self || w == 0)
			}
		}
	}
	wantSees(t, by(0, 0), 1, false)
	wantSees(t, by(1, 0), 1, true)
	wantSees(t, by(2, 0), 1, false)
}

// Vw2: the writer 0 is seen by all that may be, those too whose Self is 0, and who have nobody ahead; one below 0 by none.
func TestSeesNought(t *testing.T) {
	for _, s := range goodViews() {
		t.Run(s.name, func(t *testing.T) {
			wantSees(t, s.v, 0, true)
			for _, w := range []int{-1, -2, -s.v.Self - 1, -s.v.Next - 1, -most, math.MinInt} {
				wantSees(t, s.v, w, false)
			}
		})
	}
}

// Vw2: each one of Active is not seen, those around it are, if they are not active themselves.
func TestSeesActive(t *testing.T) {
	for _, s := range goodViews() {
		t.Run(s.name, func(t *testing.T) {
			for _, a := range s.v.Active {
				wantSees(t, s.v, a, false)
				for _, w := range []int{a - 1, a + 1} {
					ahead := w < s.v.Next && !slices.Contains(s.v.Active, w)
					wantSees(t, s.v, w, ahead || w == s.v.Self)
				}
			}
			for _, w := range writers(s.v) {
				wantSees(t, s.v, w, slowSees(s.v, w))
			}
		})
	}
}

// Vw2: All of none, of one, and of several.
func TestAll(t *testing.T) {
	a, b, c := by(7, 10, 3, 5), by(5, 9, 3), by(3, 6)
	for w := -3; w < 14; w++ {
		wantAll(t, nil, w, true)
		wantAll(t, []api.View{}, w, true)
		for _, v := range []api.View{a, b, c} {
			wantAll(t, []api.View{v}, w, slowSees(v, w))
		}
		all := slowSees(a, w) && slowSees(b, w) && slowSees(c, w)
		for _, l := range [][]api.View{{a, b, c}, {a, c, b}, {b, a, c}, {b, c, a}, {c, a, b}, {c, b, a}} {
			wantAll(t, l, w, all)
			for _, n := range []int{0, 1, 2, 3} {
				wantAll(t, slices.Insert(slices.Clone(l), n, by(-1, 99)), w, false)
			}
		}
	}
	for _, w := range []int{math.MinInt, math.MaxInt, most, 1 << 32} {
		wantAll(t, nil, w, true)
		wantAll(t, []api.View{a}, w, false)
	}
	wantAll(t, []api.View{a, b, c}, 0, true)
	wantAll(t, []api.View{a, b, c}, 4, true)
	wantAll(t, []api.View{a, b, c}, 5, false)
	wantAll(t, []api.View{b, c}, 5, true)
	wantAll(t, []api.View{a, b, c}, 3, false)
	wantAll(t, []api.View{c}, 3, true)
	wantAll(t, []api.View{a, b, c}, 6, false)
	wantAll(t, []api.View{a, b}, 6, true)
}

// Vw2: one that does not see, among many at each place, is enough; so is one that may not be.
func TestAllOfMany(t *testing.T) {
	for n := 1; n < 100; n += 7 {
		l := slices.Repeat([]api.View{by(7, 8, 5)}, n)
		wantAll(t, l, 6, true)
		for at := range l {
			for _, v := range []api.View{by(7, 8, 6), by(7, 6), by(0, 0), by(-1, 8), by(7, 8, 5, 5), by(8, most+1)} {
				some := slices.Clone(l)
				some[at] = v
				wantAll(t, some, 6, false)
			}
		}
	}
}

// some is one of a few numbers, most of them small, some at the edges, few beyond.
func some(r *rand.Rand, small int) int {
	switch r.IntN(20) {
	case 0:
		return []int{-1, -2, -1 << 32, math.MinInt}[r.IntN(4)]
	case 1:
		return []int{most + 1, 1 << 32, 1<<32 + 3, math.MaxInt}[r.IntN(4)]
	case 2:
		return []int{0, 1, most - 1, most}[r.IntN(4)]
	}
	return r.IntN(small)
}

// Vw1, Vw2: strewn views are held against the chapter's words.
func TestStrewnViews(t *testing.T) {
	r := rand.New(rand.NewPCG(16, 1))
	told := map[string]int{}
	for range 60000 {
		v := api.View{Self: some(r, 12), Next: some(r, 14)}
		for range r.IntN(5) {
			v.Active = append(v.Active, some(r, 12))
		}
		if r.IntN(3) > 0 {
			slices.Sort(v.Active)
		}
		wantCheck(t, v, slowCheck(v))
		w := some(r, 15)
		sees := slowSees(v, w)
		wantSees(t, v, w, sees)
		told[fmt.Sprint(slowCheck(v), sees, len(v.Active) > 1)]++
	}
	for _, what := range []string{"0 true true", "0 true false", "0 false true", "0 false false", "1 false true", "1 false false"} {
		if told[what] < 1000 {
			t.Errorf("%s: too few to tell: %v", what, told)
		}
	}
}

// Vw1: strewn calls of Of are held against the chapter's words.
func TestStrewnOf(t *testing.T) {
	r := rand.New(rand.NewPCG(16, 2))
	told := map[string]int{}
	for range 40000 {
		small := []int{8, 40, 90}[r.IntN(3)]
		self, next := r.IntN(small), r.IntN(small+10)
		if r.IntN(8) == 0 {
			self, next = some(r, small), some(r, small)
		}
		var live []int
		for range r.IntN(2 * small) {
			live = append(live, 1+r.IntN(small+20))
		}
		if r.IntN(4) == 0 {
			live = append(live, some(r, small))
		}
		want, why := slowOf(self, next, live)
		wantOf(t, self, next, live, want, why)
		told[fmt.Sprint(why, len(live) > 64, len(want.Active) > 20)]++
	}
	for _, what := range []string{"0 true true", "0 true false", "0 false true", "0 false false", "1 true false", "1 false false"} {
		if told[what] < 300 {
			t.Errorf("%s: too few to tell: %v", what, told)
		}
	}
}

// Vw2: strewn lists of views are held against the chapter's words.
func TestStrewnAll(t *testing.T) {
	r := rand.New(rand.NewPCG(16, 3))
	told := map[string]int{}
	for range 30000 {
		var l []api.View
		for range r.IntN(4) {
			v := api.View{Self: r.IntN(12), Next: 6 + r.IntN(8)}
			for n := range 6 {
				if r.IntN(6) == 0 {
					v.Active = append(v.Active, n+1)
				}
			}
			l = append(l, v)
		}
		w := r.IntN(10) - 1
		want := slowAll(l, w)
		wantAll(t, l, w, want)
		told[fmt.Sprint(len(l), want)]++
	}
	for _, what := range []string{"0 true", "1 true", "1 false", "2 true", "2 false", "3 true", "3 false"} {
		if told[what] < 1000 {
			t.Errorf("%s: too few to tell: %v", what, told)
		}
	}
}

// life is all that happens to those that begin one behind the other: who lives, and who has ended.
type life struct {
	next  int
	live  []int
	ended []int
}

func (l *life) begin() int {
	l.live = append(l.live, l.next)
	l.next++
	return l.next - 1
}

func (l *life) end(at int) int {
	who := l.live[at]
	l.live = slices.Delete(l.live, at, at+1)
	l.ended = append(l.ended, who)
	return who
}

// made is a view with what it must see for ever: who had ended when it was made.
type made struct {
	v     api.View
	ended []int
}

func (m made) want(writer int) bool {
	return writer == 0 || writer == m.v.Self || slices.Contains(m.ended, writer)
}

// look is the view that is made of those that live then, told in some order, it among them.
func (l *life) look(t *testing.T, self int, r *rand.Rand) made {
	t.Helper()
	live := slices.Clone(l.live)
	r.Shuffle(len(live), func(i, j int) { live[i], live[j] = live[j], live[i] })
	v, e := Of(self, l.next, live)
	if e != api.OK {
		t.Fatalf("Of(%d, %d, %v): error %d", self, l.next, live, e)
	}
	return made{v, slices.Clone(l.ended)}
}

// tally is how often what was told of views.
type tally struct {
	seen, blind, later int
}

// ask asks a view of those writers; ends says how many views there were when each ended, the view asked being one of them by its number.
func (n *tally) ask(t *testing.T, m made, number, from, to int, ends map[int]int) {
	t.Helper()
	for w := from; w < to; w++ {
		want := m.want(w)
		if got := Sees(m.v, w); got != want {
			t.Fatalf("%v, made when %v had ended: Sees(%d) = %t", m.v, m.ended, w, got)
		}
		if want {
			n.seen++
		} else {
			n.blind++
		}
		if views, ok := ends[w]; ok && views > number && w != m.v.Self {
			n.later++
			if Sees(m.v, w) {
				t.Fatalf("%v sees %d, which ended behind its making", m.v, w)
			}
		}
	}
}

// Vw3: what ends behind a view's making it never sees; what it sees it sees for ever: those that had ended, and itself.
func TestWhatEndsLater(t *testing.T) {
	r := rand.New(rand.NewPCG(16, 4))
	told := tally{}
	for range 150 {
		l := life{next: 1 + r.IntN(3)*1000}
		first := l.next
		for w := 1; w < first; w++ {
			l.ended = append(l.ended, w)
		}
		var views []made
		ends := map[int]int{} // how many views there were when each ended
		for range 60 {
			if len(l.live) > 0 && r.IntN(2) == 0 {
				ends[l.end(r.IntN(len(l.live)))] = len(views)
			} else {
				views = append(views, l.look(t, l.begin(), r))
			}
			for i, m := range views {
				told.ask(t, m, i, max(first-2, 0), l.next+3, ends)
			}
		}
	}
	if told.seen < 10000 || told.blind < 10000 || told.later < 10000 {
		t.Errorf("too few to tell: %v", told)
	}
}

// Vw3: all ways in which four can begin and end, with a view at each beginning.
func TestWhatEndsLaterAll(t *testing.T) {
	lives := 0
	var onward func(l life, views []made)
	onward = func(l life, views []made) {
		lives++
		for _, m := range views {
			for w := range l.next + 2 {
				wantSees(t, m.v, w, m.want(w))
			}
		}
		if l.next <= 4 {
			next := life{l.next, slices.Clone(l.live), slices.Clone(l.ended)}
			self := next.begin()
			v, e := Of(self, next.next, next.live)
			if e != api.OK {
				t.Fatalf("Of(%d, %d, %v): error %d", self, next.next, next.live, e)
			}
			onward(next, append(slices.Clone(views), made{v, slices.Clone(next.ended)}))
		}
		for at := range l.live {
			next := life{l.next, slices.Clone(l.live), slices.Clone(l.ended)}
			next.end(at)
			onward(next, views)
		}
	}
	onward(life{next: 1}, nil)
	if lives < 100 {
		t.Errorf("%d lives: too few to tell", lives)
	}
}

// spoil writes over a list, its spare room too.
func spoil(l []int) {
	l = l[:cap(l)]
	for i := range l {
		l[i] = -7
	}
}

// roomy is a list with something behind its end.
func roomy(l []int) []int {
	return append(slices.Clone(l), 31, 32, 33)[:len(l)]
}

// R3: what Of is handed is left, in its order, with what lies behind its end; the view shares no memory with it, or with another one.
func TestOfLeaves(t *testing.T) {
	lists := [][]int{nil, {}, {5}, {5, 3}, {3, 5}, {5, 5, 3, 3}, {9, 7, 5, 8, 1}, {7}, {9}, {5, 0}, run(1, 6), run(1, 64), run(1, 65), backwards(run(1, 64)), slices.Repeat([]int{4, 2}, 50)}
	for _, l := range lists {
		for _, next := range []int{0, 4, 8, 100, -1} {
			live := roomy(l)
			whole := slices.Clone(live[:cap(live)])
			first, why := Of(7, next, live)
			second, _ := Of(7, next, live)
			want, slow := slowOf(7, next, l)
			if !slices.Equal(live[:cap(live)], whole) {
				t.Fatalf("Of(7, %d, %v) turned what it was handed into %v", next, l, live[:cap(live)])
			}
			spoil(first.Active)
			if !slices.Equal(live[:cap(live)], whole) || !alike(second, want) || why != slow {
				t.Fatalf("Of(7, %d, %v): what is told shares memory", next, l)
			}
			spoil(live)
			if !alike(second, want) {
				t.Fatalf("Of(7, %d, %v) hangs on what was handed in: %v", next, l, second)
			}
		}
	}
}

// R3: what is only asked is left, with what lies behind its end.
func TestAsksLeave(t *testing.T) {
	var all, whole []api.View
	for _, s := range slices.Concat(goodViews(), badViews(), others()) {
		v := s.v
		v.Active = roomy(v.Active)
		all = append(all, v)
		kept := v
		kept.Active = slices.Clone(v.Active[:cap(v.Active)])
		whole = append(whole, kept)
	}
	ask := func(v api.View) {
		Check(v)
		Same(v, all[0])
		Same(all[0], v)
		for _, w := range writers(v) {
			Sees(v, w)
			All([]api.View{v}, w)
		}
	}
	for _, v := range all {
		ask(v)
	}
	list := all[:3:len(all)]
	All(list, 0)
	All(all, 0)
	for i, v := range all {
		k := whole[i]
		if v.Self != k.Self || v.Next != k.Next || !slices.Equal(v.Active[:cap(v.Active)], k.Active) {
			t.Errorf("%v was turned into %v", k, v)
		}
	}
}

// R4: asked again, behind an error too, the same is told.
func TestAgain(t *testing.T) {
	samples := slices.Concat(goodViews(), badViews(), others())
	var first []string
	tell := func(s sample) string {
		v, e := Of(s.v.Self, s.v.Next, s.v.Active)
		told := fmt.Sprint(Check(s.v), v, e, Same(s.v, by(7, 8, 5)))
		for _, w := range writers(s.v) {
			told += fmt.Sprint(Sees(s.v, w), All([]api.View{s.v, by(w, 8)}, w))
		}
		return told
	}
	for _, s := range samples {
		first = append(first, tell(s))
	}
	for i := len(samples) - 1; i >= 0; i-- {
		if again := tell(samples[i]); again != first[i] {
			t.Errorf("%s: %s, then %s", samples[i].name, first[i], again)
		}
	}
}
