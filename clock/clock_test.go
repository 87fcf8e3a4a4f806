package clock

import (
	"fmt"
	"math"
	"math/rand/v2"
	"slices"
	"strconv"
	"strings"
	"testing"

	"humus/api"
)

// at is a clock with its hand there, of frames written one behind the other: - an empty one, else a page, with u if it is used and p if it is pinned (-1u is an empty one that is used).
func at(hand int, frames string) api.Clock {
	c := api.Clock{Hand: hand}
	for f := range strings.FieldsSeq(frames) {
		c.Spots = append(c.Spots, spotOf(f))
	}
	return c
}

func spotOf(f string) api.Spot {
	if f == "-" {
		return api.Spot{Page: -1}
	}
	page, err := strconv.Atoi(strings.TrimRight(f, "up"))
	if err != nil {
		panic(err)
	}
	return api.Spot{Page: page, Used: strings.Contains(f, "u"), Pinned: strings.Contains(f, "p")}
}

// alike goes by the parts, one after the other: what is told must not hang on Same.
func alike(a, b api.Clock) bool {
	if a.Hand != b.Hand || len(a.Spots) != len(b.Spots) {
		return false
	}
	for i, s := range a.Spots {
		o := b.Spots[i]
		if s.Page != o.Page || s.Used != o.Used || s.Pinned != o.Pinned {
			return false
		}
	}
	return true
}

// full is a clock of so many frames, with a page in each, from 0 on, and nothing else said of them.
func full(n int) api.Clock {
	c := api.Clock{}
	for i := range n {
		c.Spots = append(c.Spots, api.Spot{Page: i})
	}
	return c
}

// with is a clock with one of its frames turned.
func with(c api.Clock, i int, s api.Spot) api.Clock {
	c.Spots = slices.Clone(c.Spots)
	c.Spots[i] = s
	return c
}

func wantTouch(t *testing.T, c api.Clock, page int, want api.Clock, frame, was int, why api.Errno) {
	t.Helper()
	got, f, w, e := Touch(c, page)
	if !alike(got, want) || f != frame || w != was || e != why {
		t.Fatalf("Touch(%v, %d) = %v, %d, %d, error %d, not %v, %d, %d, %d", c, page, got, f, w, e, want, frame, was, why)
	}
}

func wantPin(t *testing.T, c api.Clock, page int, on bool, want api.Clock, why api.Errno) {
	t.Helper()
	got, e := Pin(c, page, on)
	if !alike(got, want) || e != why {
		t.Fatalf("Pin(%v, %d, %t) = %v, error %d, not %v, %d", c, page, on, got, e, want, why)
	}
}

func wantDrop(t *testing.T, c api.Clock, page int, want api.Clock, why api.Errno) {
	t.Helper()
	got, e := Drop(c, page)
	if !alike(got, want) || e != why {
		t.Fatalf("Drop(%v, %d) = %v, error %d, not %v, %d", c, page, got, e, want, why)
	}
}

// sample is a clock with a name.
type sample struct {
	name string
	c    api.Clock
}

// goodClocks are clocks at the edges of what may be.
func goodClocks() []sample {
	return []sample{
		{"one empty frame", at(0, "-")},
		{"one frame of page 0", at(0, "0")},
		{"one frame of page 63", at(0, "63")},
		{"used", at(0, "5u")},
		{"pinned", at(0, "5p")},
		{"used and pinned", at(0, "5up")},
		{"empty ones", at(2, "- - -")},
		{"empty ones between", at(1, "- 7u - 3p -")},
		{"the hand at the last one", at(3, "4 3 2 1")},
		{"the hand at an empty one", at(1, "4 - 2")},
		{"all that a frame may be", at(0, "- 0 1u 2p 3up")},
		{"64 empty frames", at(63, strings.Repeat("- ", 64))},
		{"all pages", full(64)},
		{"63 frames", full(63)},
	}
}

// badClocks are clocks that may not be.
func badClocks() []sample {
	l := []sample{
		{"the zero one", api.Clock{}},
		{"no frames", api.Clock{Spots: []api.Spot{}}},
		{"no frames, and the hand at 1", api.Clock{Hand: 1}},
		{"no frames, and the hand at -1", api.Clock{Hand: -1}},
		{"65 empty frames", at(0, strings.Repeat("- ", 65))},
		{"65 empty frames, the hand at the last", at(64, strings.Repeat("- ", 65))},
		{"64 pages, and an empty frame", api.Clock{Spots: append(full(64).Spots, api.Spot{Page: -1})}},
		{"65 pages", full(65)},
		{"1000 empty frames", at(0, strings.Repeat("- ", 1000))},
		{"a page twice", at(0, "3 3")},
		{"page 0 twice", at(0, "0 0")},
		{"page 63 twice", at(0, "63 63")},
		{"a page twice, not side by side", at(0, "3 4 - 3")},
		{"a page twice, used and not", at(0, "3 3u")},
		{"a page twice, pinned and not", at(0, "3p 3")},
		{"a page twice at the end", with(full(64), 63, api.Spot{Page: 62})},
		{"a page twice at both ends", with(full(64), 63, api.Spot{Page: 0})},
		{"an empty frame that is used", at(0, "-1u")},
		{"an empty frame that is pinned", at(0, "-1p")},
		{"an empty frame that is both", at(0, "-1up")},
		{"a last empty frame that is used", at(0, "1 - -1u")},
		{"a middle empty frame that is pinned", at(0, "1 -1p 2")},
	}
	for _, hand := range []int{-1, -2, -3, 3, 4, 63, 64, math.MinInt, math.MaxInt} {
		l = append(l, sample{fmt.Sprintf("the hand at %d", hand), at(hand, "1 2 -")})
	}
	for _, hand := range []int{-1, 1, 64} {
		l = append(l, sample{fmt.Sprintf("the hand at %d of one", hand), at(hand, "1")})
	}
	for _, hand := range []int{-1, 64} {
		c := full(64)
		c.Hand = hand
		l = append(l, sample{fmt.Sprintf("the hand at %d of 64", hand), c})
	}
	for _, page := range []int{-2, -3, -64, 64, 65, 128, 1 << 32, math.MinInt, math.MaxInt} {
		s := api.Spot{Page: page}
		l = append(l,
			sample{fmt.Sprintf("page %d", page), api.Clock{Spots: []api.Spot{s}}},
			sample{fmt.Sprintf("page %d first", page), with(at(0, "1 2 3"), 0, s)},
			sample{fmt.Sprintf("page %d last", page), with(at(0, "- 2u 3p"), 2, s)},
			sample{fmt.Sprintf("page %d, used and pinned", page), with(at(0, "1 - 3"), 1, api.Spot{Page: page, Used: true, Pinned: true})})
	}
	return l
}

// Ck1: New of what can't be.
func TestNewOfNone(t *testing.T) {
	for _, n := range []int{0, -1, -2, -64, 65, 66, 128, 1 << 32, 1<<32 + 1, math.MinInt, math.MaxInt} {
		if c, e := New(n); len(c.Spots) != 0 || c.Hand != 0 || e != api.ErrArg {
			t.Errorf("New(%d) = %v, error %d", n, c, e)
		}
	}
}

// Ck1: New of 1 to 64 frames: all empty, the hand at 0.
func TestNew(t *testing.T) {
	for n := 1; n <= 64; n++ {
		c, e := New(n)
		if want := at(0, strings.Repeat("- ", n)); e != api.OK || !alike(c, want) {
			t.Errorf("New(%d) = %v, error %d", n, c, e)
		}
		if e := Check(c); e != api.OK {
			t.Errorf("New(%d): Check: error %d", n, e)
		}
	}
}

// Ck1: Check of clocks that may be, with the hand at each frame.
func TestCheckOfGood(t *testing.T) {
	for _, s := range goodClocks() {
		if e := Check(s.c); e != api.OK {
			t.Errorf("%s: error %d", s.name, e)
		}
		for hand := range s.c.Spots {
			s.c.Hand = hand
			if e := Check(s.c); e != api.OK {
				t.Errorf("%s, the hand at %d: error %d", s.name, hand, e)
			}
		}
	}
}

// Ck1: of a clock that may not be all tell ErrArg, with zeros, and -1 for frames and pages; that comes ahead of what may be wrong with the page.
func TestBadClocks(t *testing.T) {
	for _, s := range badClocks() {
		if e := Check(s.c); e != api.ErrArg {
			t.Errorf("%s: Check: error %d", s.name, e)
		}
		for _, page := range []int{-2, -1, 0, 1, 2, 3, 4, 5, 62, 63, 64, math.MinInt, math.MaxInt} {
			wantTouch(t, s.c, page, api.Clock{}, -1, -1, api.ErrArg)
			wantPin(t, s.c, page, true, api.Clock{}, api.ErrArg)
			wantPin(t, s.c, page, false, api.Clock{}, api.ErrArg)
			wantDrop(t, s.c, page, api.Clock{}, api.ErrArg)
		}
		for _, p := range s.c.Spots {
			wantTouch(t, s.c, p.Page, api.Clock{}, -1, -1, api.ErrArg)
			wantPin(t, s.c, p.Page, !p.Pinned, api.Clock{}, api.ErrArg)
			wantDrop(t, s.c, p.Page, api.Clock{}, api.ErrArg)
		}
	}
}

// slowCheck goes by the chapter's words.
func slowCheck(c api.Clock) api.Errno {
	good := 1 <= len(c.Spots) && len(c.Spots) <= 64 && 0 <= c.Hand && c.Hand < len(c.Spots)
	for i, s := range c.Spots {
		if s.Page == -1 {
			good = good && !s.Used && !s.Pinned
			continue
		}
		good = good && 0 <= s.Page && s.Page <= 63
		for _, o := range c.Spots[:i] {
			good = good && o.Page != s.Page
		}
	}
	if good {
		return api.OK
	}
	return api.ErrArg
}

// spots are all that a frame of these pages may say.
func spots(pages ...int) []api.Spot {
	var l []api.Spot
	for _, p := range pages {
		for _, used := range []bool{false, true} {
			for _, pinned := range []bool{false, true} {
				l = append(l, api.Spot{Page: p, Used: used, Pinned: pinned})
			}
		}
	}
	return l
}

// each goes through all clocks of n frames out of these, with the hand at each frame, and just ahead of and behind them.
func each(n int, of []api.Spot, do func(c api.Clock)) {
	c := api.Clock{Spots: make([]api.Spot, n)}
	var fill func(i int)
	fill = func(i int) {
		if i < n {
			for _, s := range of {
				c.Spots[i] = s
				fill(i + 1)
			}
			return
		}
		for hand := -1; hand <= n; hand++ {
			c.Hand = hand
			do(c)
		}
	}
	fill(0)
}

// Ck1: all clocks of up to three frames of a few pages are held against the chapter's words.
func TestCheckAll(t *testing.T) {
	told := map[api.Errno]int{}
	for n := range 4 {
		each(n, spots(-2, -1, 0, 5, 63, 64), func(c api.Clock) {
			want := slowCheck(c)
			told[want]++
			if e := Check(c); e != want {
				t.Fatalf("Check(%v) = %d, not %d", c, e, want)
			}
		})
	}
	if told[api.OK] < 1000 || told[api.ErrArg] < 1000 {
		t.Errorf("told: %v", told)
	}
}

// Ck1: clocks are alike that have the same frames in the same order and the same hand.
func TestSame(t *testing.T) {
	c := at(1, "1 2u 3p 4up -")
	other := []sample{
		{"the hand", at(2, "1 2u 3p 4up -")},
		{"the hand, below", at(0, "1 2u 3p 4up -")},
		{"the hand, where there is no frame", at(-1, "1 2u 3p 4up -")},
		{"the first page", at(1, "5 2u 3p 4up -")},
		{"a middle page", at(1, "1 2u 6p 4up -")},
		{"the last page", at(1, "1 2u 3p 4up 0")},
		{"an empty frame", at(1, "- 2u 3p 4up -")},
		{"used", at(1, "1u 2u 3p 4up -")},
		{"not used", at(1, "1 2 3p 4up -")},
		{"not used, but pinned", at(1, "1 2u 3p 4p -")},
		{"pinned", at(1, "1p 2u 3p 4up -")},
		{"not pinned", at(1, "1 2u 3 4up -")},
		{"not pinned, but used", at(1, "1 2u 3p 4u -")},
		{"used for pinned", at(1, "1 2p 3p 4up -")},
		{"the last one used", at(1, "1 2u 3p 4up -1u")},
		{"a frame fewer", at(1, "1 2u 3p 4up")},
		{"the first frame missing", at(1, "2u 3p 4up -")},
		{"a frame more", at(1, "1 2u 3p 4up - -")},
		{"another order", at(1, "2u 1 3p 4up -")},
		{"the last ones the other way round", at(1, "1 2u 3p - 4up")},
		{"no frames", at(1, "")},
		{"the zero one", api.Clock{}},
	}
	for _, o := range other {
		if Same(c, o.c) || Same(o.c, c) {
			t.Errorf("%s: alike", o.name)
		}
	}
	for _, s := range slices.Concat(goodClocks(), badClocks(), other) {
		twin := api.Clock{Spots: slices.Clone(s.c.Spots), Hand: s.c.Hand}
		if !Same(s.c, s.c) || !Same(s.c, twin) || !Same(twin, s.c) {
			t.Errorf("%s: not alike itself", s.name)
		}
	}
}

// Ck1: Same of clocks that may not be tells whether they are alike too; nil and the empty list are the same, and spare room is of no account.
func TestSameOfBad(t *testing.T) {
	none := api.Clock{Spots: []api.Spot{}}
	if !Same(api.Clock{}, none) || !Same(none, api.Clock{}) || !Same(api.Clock{}, api.Clock{}) {
		t.Error("nil and the empty list are not the same")
	}
	if Same(api.Clock{}, api.Clock{Hand: 1}) || Same(api.Clock{Hand: -1}, none) {
		t.Error("no frames, but another hand: alike")
	}
	if Same(at(0, "3 3"), at(0, "3 3u")) || Same(at(0, "64"), at(0, "65")) || Same(at(-1, "1"), at(-2, "1")) || Same(at(0, "-1u"), at(0, "-1p")) {
		t.Error("other clocks that may not be: alike")
	}
	long := at(0, strings.Repeat("- ", 65))
	if Same(long, at(0, strings.Repeat("- ", 66))) || !Same(long, at(0, strings.Repeat("- ", 65))) {
		t.Error("65 frames")
	}
	a, b := at(0, "1 2 3"), at(0, "1 2 4")
	a.Spots, b.Spots = a.Spots[:2], b.Spots[:2]
	if !Same(a, b) {
		t.Error("what lies behind the frames counts")
	}
}

// Ck1: Same of two small clocks is held against their parts.
func TestSameAll(t *testing.T) {
	var l []api.Clock
	for n := range 3 {
		each(n, spots(-1, 0), func(c api.Clock) {
			l = append(l, api.Clock{Spots: slices.Clone(c.Spots), Hand: c.Hand})
		})
	}
	for _, a := range l {
		for _, b := range l {
			if got := Same(a, b); got != alike(a, b) {
				t.Fatalf("Same(%v, %v) = %t", a, b, got)
			}
		}
	}
}

// Ck2: a page that has a frame is used there, and nothing else turns; no page leaves.
func TestTouchOfOneThatIsIn(t *testing.T) {
	for hand := range 4 {
		wantTouch(t, at(hand, "1 2u 3p 4up"), 1, at(hand, "1u 2u 3p 4up"), 0, -1, api.OK)
		wantTouch(t, at(hand, "1 2u 3p 4up"), 2, at(hand, "1 2u 3p 4up"), 1, -1, api.OK)
		wantTouch(t, at(hand, "1 2u 3p 4up"), 3, at(hand, "1 2u 3up 4up"), 2, -1, api.OK)
		wantTouch(t, at(hand, "1 2u 3p 4up"), 4, at(hand, "1 2u 3p 4up"), 3, -1, api.OK)
		wantTouch(t, at(hand, "- 0 - 63"), 0, at(hand, "- 0u - 63"), 1, -1, api.OK)
		wantTouch(t, at(hand, "- 0 - 63"), 63, at(hand, "- 0 - 63u"), 3, -1, api.OK)
	}
	for p := range 64 {
		wantTouch(t, full(64), p, with(full(64), p, api.Spot{Page: p, Used: true}), p, -1, api.OK)
	}
}

// Ck2: the first empty frame is found, wherever the hand is, and the hand stays; nothing is passed.
func TestTouchOfEmpty(t *testing.T) {
	for hand := range 4 {
		wantTouch(t, at(hand, "- - - -"), 0, at(hand, "0u - - -"), 0, -1, api.OK)
		wantTouch(t, at(hand, "1 - 3 -"), 63, at(hand, "1 63u 3 -"), 1, -1, api.OK)
		wantTouch(t, at(hand, "1u 2p 3up -"), 9, at(hand, "1u 2p 3up 9u"), 3, -1, api.OK)
		wantTouch(t, at(hand, "1 2 - 3"), 9, at(hand, "1 2 9u 3"), 2, -1, api.OK)
		wantTouch(t, at(hand, "1u - - 3u"), 9, at(hand, "1u 9u - 3u"), 1, -1, api.OK)
	}
	wantTouch(t, at(0, "-"), 7, at(0, "7u"), 0, -1, api.OK)
	c := with(full(64), 63, api.Spot{Page: -1})
	wantTouch(t, c, 63, with(full(64), 63, api.Spot{Page: 63, Used: true}), 63, -1, api.OK)
}

// Ck2: with no empty frame the hand goes round from where it stands: pinned ones are passed as they are, used ones are used no more, the first that is neither is it, and the hand stands behind it.
func TestTouchFinds(t *testing.T) {
	for _, c := range []struct {
		hand   int
		frames string
		frame  int
		was    int
		behind int
		then   string
	}{
		{0, "1 2 3", 0, 1, 1, "9u 2 3"},
		{1, "1 2 3", 1, 2, 2, "1 9u 3"},
		{2, "1 2 3", 2, 3, 0, "1 2 9u"},
		{0, "1u 2 3", 1, 2, 2, "1 9u 3"},
		{0, "1u 2 3u", 1, 2, 2, "1 9u 3u"},
		{1, "1u 2u 3", 2, 3, 0, "1u 2 9u"},
		{1, "1 2u 3u", 0, 1, 1, "9u 2 3"},
		{2, "1u 2 3u", 1, 2, 2, "1 9u 3"},
		{0, "1u 2u 3u", 0, 1, 1, "9u 2 3"},
		{1, "1u 2u 3u", 1, 2, 2, "1 9u 3"},
		{2, "1u 2u 3u", 2, 3, 0, "1 2 9u"},
		{0, "1p 2 3", 1, 2, 2, "1p 9u 3"},
		{0, "1up 2 3", 1, 2, 2, "1up 9u 3"},
		{0, "1up 2u 3u", 1, 2, 2, "1up 9u 3"},
		{1, "1up 2u 3u", 1, 2, 2, "1up 9u 3"},
		{2, "1up 2u 3u", 2, 3, 0, "1up 2 9u"},
		{0, "1p 2p 3u", 2, 3, 0, "1p 2p 9u"},
		{0, "1up 2up 3u", 2, 3, 0, "1up 2up 9u"},
		{2, "1up 2p 3", 2, 3, 0, "1up 2p 9u"},
		{1, "1u 2p 3up", 0, 1, 1, "9u 2p 3up"},
		{1, "1 2p 3up", 0, 1, 1, "9u 2p 3up"},
		{0, "1u 2p 3", 2, 3, 0, "1 2p 9u"},
		{2, "0u 2u 63u", 2, 63, 0, "0 2 9u"},
		{0, "0", 0, 0, 0, "9u"},
		{0, "63u", 0, 63, 0, "9u"},
		{1, "4u 5u", 1, 5, 0, "4 9u"},
	} {
		wantTouch(t, at(c.hand, c.frames), 9, at(c.behind, c.then), c.frame, c.was, api.OK)
	}
}

// Ck2: as many frames as may be without one for each page, the hand at the last one, and a single one that is not pinned.
func TestTouchFindsAmongMany(t *testing.T) {
	c := full(63)
	for i := range c.Spots {
		c.Spots[i].Used = true
	}
	for hand := range 63 {
		c.Hand = hand
		want := full(63)
		want.Spots[hand] = api.Spot{Page: 63, Used: true}
		want.Hand = (hand + 1) % 63
		wantTouch(t, c, 63, want, hand, hand, api.OK)
	}
	for i := range c.Spots {
		c.Spots[i].Pinned = true
	}
	for hand := range 63 {
		for free := range 63 {
			one := with(c, free, api.Spot{Page: free, Used: true})
			one.Hand = hand
			want := with(one, free, api.Spot{Page: 63, Used: true})
			want.Hand = (free + 1) % 63
			wantTouch(t, one, 63, want, free, free, api.OK)
		}
	}
}

// Ck2: if all frames are pinned there is none: ErrPool, and the clock as it was handed in; but a page that is in needs none.
func TestTouchOfAllPinned(t *testing.T) {
	for hand := range 3 {
		for _, frames := range []string{"1p 2p 3p", "1up 2p 3up", "1up 2up 3up", "1p 2up 3p"} {
			c := at(hand, frames)
			for _, page := range []int{0, 4, 63} {
				wantTouch(t, c, page, c, -1, -1, api.ErrPool)
			}
			if _, frame, was, e := Touch(c, 2); frame != 1 || was != -1 || e != api.OK {
				t.Errorf("%v: page 2: %d, %d, error %d", c, frame, was, e)
			}
		}
	}
	wantTouch(t, at(0, "5p"), 6, at(0, "5p"), -1, -1, api.ErrPool)
	wantTouch(t, at(0, "5up"), 6, at(0, "5up"), -1, -1, api.ErrPool)
	c := full(63)
	for i := range c.Spots {
		c.Spots[i].Pinned = true
	}
	c.Hand = 62
	wantTouch(t, c, 63, c, -1, -1, api.ErrPool)
}

// Ck2: Touch of what is no page: ErrArg, and the clock as it was handed in, also where -1 is an empty frame's page, or no frame could be found.
func TestTouchOfNoPage(t *testing.T) {
	for _, s := range append(goodClocks(), sample{"all pinned", at(1, "1p 2up")}, sample{"all used", at(1, "1u 2u")}) {
		for _, page := range []int{-1, -2, -64, 64, 65, 128, 1 << 32, math.MinInt, math.MaxInt} {
			wantTouch(t, s.c, page, s.c, -1, -1, api.ErrArg)
		}
	}
}

// Ck2: Pin pins, or lets go, one that is pinned and one that is not; its use and all else stay.
func TestPin(t *testing.T) {
	for hand := range 4 {
		wantPin(t, at(hand, "1 2u 3p 4up"), 1, true, at(hand, "1p 2u 3p 4up"), api.OK)
		wantPin(t, at(hand, "1 2u 3p 4up"), 2, true, at(hand, "1 2up 3p 4up"), api.OK)
		wantPin(t, at(hand, "1 2u 3p 4up"), 3, true, at(hand, "1 2u 3p 4up"), api.OK)
		wantPin(t, at(hand, "1 2u 3p 4up"), 4, true, at(hand, "1 2u 3p 4up"), api.OK)
		wantPin(t, at(hand, "1 2u 3p 4up"), 1, false, at(hand, "1 2u 3p 4up"), api.OK)
		wantPin(t, at(hand, "1 2u 3p 4up"), 2, false, at(hand, "1 2u 3p 4up"), api.OK)
		wantPin(t, at(hand, "1 2u 3p 4up"), 3, false, at(hand, "1 2u 3 4up"), api.OK)
		wantPin(t, at(hand, "1 2u 3p 4up"), 4, false, at(hand, "1 2u 3p 4u"), api.OK)
		wantPin(t, at(hand, "- 0 - 63"), 0, true, at(hand, "- 0p - 63"), api.OK)
		wantPin(t, at(hand, "- 0 - 63"), 63, true, at(hand, "- 0 - 63p"), api.OK)
	}
}

// Ck2: Drop empties the frame of one that is not pinned; the hand and all else stay. One that is pinned: ErrArg.
func TestDrop(t *testing.T) {
	for hand := range 4 {
		c := at(hand, "1 2u 3p 4up")
		wantDrop(t, c, 1, at(hand, "- 2u 3p 4up"), api.OK)
		wantDrop(t, c, 2, at(hand, "1 - 3p 4up"), api.OK)
		wantDrop(t, c, 3, c, api.ErrArg)
		wantDrop(t, c, 4, c, api.ErrArg)
		wantDrop(t, at(hand, "- 0 - 63u"), 0, at(hand, "- - - 63u"), api.OK)
		wantDrop(t, at(hand, "- 0 - 63u"), 63, at(hand, "- 0 - -"), api.OK)
	}
	wantDrop(t, at(0, "7"), 7, at(0, "-"), api.OK)
	wantDrop(t, at(0, "7p"), 7, at(0, "7p"), api.ErrArg)
}

// Ck2: Pin and Drop of a page that has no frame: ErrNone, and the clock as it was handed in; what is no page has none, -1 neither.
func TestPagesWithoutFrames(t *testing.T) {
	for _, s := range goodClocks() {
		for _, page := range []int{-1, -2, -64, 8, 42, 64, 65, 1 << 32, math.MinInt, math.MaxInt} {
			if page >= 0 && page < 64 && len(s.c.Spots) > 62 && s.c.Spots[0].Page == 0 {
				continue // all pages are in, or nearly
			}
			wantPin(t, s.c, page, true, s.c, api.ErrNone)
			wantPin(t, s.c, page, false, s.c, api.ErrNone)
			wantDrop(t, s.c, page, s.c, api.ErrNone)
		}
	}
	wantPin(t, full(63), 63, true, full(63), api.ErrNone)
	wantDrop(t, full(63), 63, full(63), api.ErrNone)
}

// Ck2, the chapter's example: two frames, pages 1, 2, 3: 3 takes 1's.
func TestExample(t *testing.T) {
	c, e := New(2)
	if e != api.OK {
		t.Fatalf("New: error %d", e)
	}
	for _, s := range []struct {
		page, frame, was int
		hand             int
		then             string
	}{
		{1, 0, -1, 0, "1u -"},
		{2, 1, -1, 0, "1u 2u"},
		{3, 0, 1, 1, "3u 2"},
	} {
		wantTouch(t, c, s.page, at(s.hand, s.then), s.frame, s.was, api.OK)
		c, _, _, _ = Touch(c, s.page)
	}
}

// Ck2: acts one behind the other, each on what the one ahead told.
func TestOneBehindTheOther(t *testing.T) {
	c, _ := New(3)
	touch := func(page, frame, was, hand int, then string) {
		t.Helper()
		wantTouch(t, c, page, at(hand, then), frame, was, api.OK)
		c, _, _, _ = Touch(c, page)
	}
	pin := func(page int, on bool, hand int, then string) {
		t.Helper()
		wantPin(t, c, page, on, at(hand, then), api.OK)
		c, _ = Pin(c, page, on)
	}
	touch(10, 0, -1, 0, "10u - -")
	touch(11, 1, -1, 0, "10u 11u -")
	touch(12, 2, -1, 0, "10u 11u 12u")
	touch(13, 0, 10, 1, "13u 11 12")
	touch(11, 1, -1, 1, "13u 11u 12")
	touch(14, 2, 12, 0, "13u 11 14u")
	pin(13, true, 0, "13up 11 14u")
	touch(15, 1, 11, 2, "13up 15u 14u")
	touch(16, 2, 14, 0, "13up 15 16u")
	wantDrop(t, c, 13, c, api.ErrArg)
	wantDrop(t, c, 16, at(0, "13up 15 -"), api.OK)
	c, _ = Drop(c, 16)
	touch(17, 2, -1, 0, "13up 15 17u")
	pin(15, true, 0, "13up 15p 17u")
	pin(17, true, 0, "13up 15p 17up")
	wantTouch(t, c, 18, c, -1, -1, api.ErrPool)
	pin(13, false, 0, "13u 15p 17up")
	touch(18, 0, 13, 1, "18u 15p 17up")
}

// slowTouch goes by the chapter's words, of a clock that may be.
func slowTouch(c api.Clock, page int) (api.Clock, int, int, api.Errno) {
	if page < 0 || page > 63 {
		return c, -1, -1, api.ErrArg
	}
	turned := api.Clock{Spots: slices.Clone(c.Spots), Hand: c.Hand}
	for i := range turned.Spots {
		if turned.Spots[i].Page == page {
			turned.Spots[i].Used = true
			return turned, i, -1, api.OK
		}
	}
	take := func(i int) (api.Clock, int, int, api.Errno) {
		was := turned.Spots[i].Page
		turned.Spots[i].Page = page
		turned.Spots[i].Used = true
		return turned, i, was, api.OK
	}
	for i := range turned.Spots {
		if turned.Spots[i].Page == -1 {
			return take(i)
		}
	}
	for step := range 2 * len(c.Spots) {
		i := (c.Hand + step) % len(c.Spots)
		if turned.Spots[i].Pinned {
			continue
		}
		if turned.Spots[i].Used {
			turned.Spots[i].Used = false
			continue
		}
		turned.Hand = i + 1
		if turned.Hand == len(c.Spots) {
			turned.Hand = 0
		}
		return take(i)
	}
	return c, -1, -1, api.ErrPool
}

// slowTurn is a clock with what a page's frame becomes; ErrNone, if it has none, and ErrArg, if it can't become that.
func slowTurn(c api.Clock, page int, turn func(s api.Spot) (api.Spot, bool)) (api.Clock, api.Errno) {
	for i, s := range c.Spots {
		if s.Page != page || page == -1 {
			continue
		}
		became, ok := turn(s)
		if !ok {
			return c, api.ErrArg
		}
		return with(c, i, became), api.OK
	}
	return c, api.ErrNone
}

// wantByTheWords holds all that is told of a clock and a page against the chapter's words; the errors it told are counted.
func wantByTheWords(t *testing.T, c api.Clock, page int, told map[api.Errno]int) {
	t.Helper()
	want, frame, was, why := slowTouch(c, page)
	wantTouch(t, c, page, want, frame, was, why)
	told[why]++
	for _, on := range []bool{true, false} {
		want, why := slowTurn(c, page, func(s api.Spot) (api.Spot, bool) {
			s.Pinned = on
			return s, true
		})
		wantPin(t, c, page, on, want, why)
	}
	want, why = slowTurn(c, page, func(s api.Spot) (api.Spot, bool) {
		return api.Spot{Page: -1}, !s.Pinned
	})
	wantDrop(t, c, page, want, why)
	told[why]++
}

// Ck2: all clocks of up to three frames of a few pages, and each function of each page.
func TestByTheWords(t *testing.T) {
	told := map[api.Errno]int{}
	for n := 1; n <= 3; n++ {
		each(n, spots(-1, 0, 5, 63), func(c api.Clock) {
			if slowCheck(c) != api.OK {
				return
			}
			for _, page := range []int{-2, -1, 0, 1, 5, 62, 63, 64} {
				wantByTheWords(t, c, page, told)
			}
		})
	}
	for _, why := range []api.Errno{api.OK, api.ErrArg, api.ErrNone, api.ErrPool} {
		if told[why] < 100 {
			t.Errorf("error %d was told %d times", why, told[why])
		}
	}
}

// strewn is a clock of up to 64 frames that may be.
func strewn(r *rand.Rand) api.Clock {
	n := 1 + r.IntN(64)
	c := api.Clock{Hand: r.IntN(n)}
	empties, pins := r.IntN(3), r.IntN(5)
	for _, p := range r.Perm(64)[:n] {
		s := api.Spot{Page: p, Used: r.IntN(3) > 0, Pinned: r.IntN(4) < pins}
		if empties > 0 && r.IntN(8) == 0 {
			s = api.Spot{Page: -1}
		}
		c.Spots = append(c.Spots, s)
	}
	return c
}

// Ck2: strewn clocks of any number of frames.
func TestByTheWordsStrewn(t *testing.T) {
	r := rand.New(rand.NewPCG(7, 1))
	told := map[api.Errno]int{}
	for range 4000 {
		c := strewn(r)
		if Check(c) != api.OK {
			t.Fatalf("Check(%v)", c)
		}
		for page := -1; page <= 64; page++ {
			wantByTheWords(t, c, page, told)
		}
	}
	if told[api.OK] < 1000 || told[api.ErrPool] < 1000 {
		t.Errorf("told: %v", told)
	}
}

// Ck3: a pinned page never leaves, nor its frame, whatever is done but letting it go; each clock that is told may be.
func TestPinnedNeverLeaves(t *testing.T) {
	r := rand.New(rand.NewPCG(7, 2))
	left := 0
	for range 200 {
		c, _ := New(1 + r.IntN(12))
		pinned := map[int]int{} // by page: its frame
		for range 300 {
			page := r.IntN(18) - 1
			switch r.IntN(8) {
			case 0:
				on := r.IntN(2) == 0
				next, e := Pin(c, page, on)
				if e == api.OK && on {
					pinned[page] = slices.IndexFunc(next.Spots, func(s api.Spot) bool { return s.Page == page })
				} else if e == api.OK {
					delete(pinned, page)
				}
				c = next
			case 1:
				c, _ = Drop(c, page)
			default:
				next, _, was, _ := Touch(c, page)
				if _, ok := pinned[was]; ok {
					t.Fatalf("Touch(%v, %d): %d leaves", c, page, was)
				}
				if was >= 0 {
					left++
				}
				c = next
			}
			for p, i := range pinned {
				if c.Spots[i].Page != p || !c.Spots[i].Pinned {
					t.Fatalf("%v: page %d, pinned in frame %d, is gone", c, p, i)
				}
			}
			if slowCheck(c) != api.OK || Check(c) != api.OK {
				t.Fatalf("%v may not be", c)
			}
		}
	}
	if left < 1000 {
		t.Errorf("%d pages left", left)
	}
}

// wantLastBehindOthers touches a page, then another one: if the first leaves by that, all others that are not pinned were used, and have been passed.
func wantLastBehindOthers(t *testing.T, c api.Clock, last, page int) (gone bool) {
	t.Helper()
	c, frame, _, e := Touch(c, last)
	if e != api.OK {
		return false
	}
	next, _, was, e := Touch(c, page)
	if was != last {
		return false
	}
	if e != api.OK || c.Spots[frame].Pinned {
		t.Fatalf("Touch(%v, %d): error %d, or %d is pinned", c, page, e, last)
	}
	for i, s := range c.Spots {
		if i == frame || s.Pinned {
			continue
		}
		if !s.Used || next.Spots[i].Used {
			t.Fatalf("%d, touched last, leaves %v for %d, but frame %d was not passed: %v", last, c, page, i, next)
		}
	}
	return true
}

// Ck3: what was touched last leaves only when all others that are not pinned have been passed.
func TestLastLeavesLast(t *testing.T) {
	gone := 0
	check := func(c api.Clock, last, page int) {
		if last != page && wantLastBehindOthers(t, c, last, page) {
			gone++
		}
	}
	for n := 1; n <= 3; n++ {
		each(n, spots(-1, 0, 5, 63), func(c api.Clock) {
			for _, last := range []int{0, 1, 5, 63} {
				check(c, last, 2)
			}
		})
	}
	r := rand.New(rand.NewPCG(7, 3))
	for range 20000 {
		check(strewn(r), r.IntN(64), r.IntN(64))
	}
	if gone < 100 {
		t.Errorf("what was touched last left %d times", gone)
	}
	one := at(1, "1p 2 3up")
	if !wantLastBehindOthers(t, one, 2, 4) {
		t.Error("the only one that is not pinned stays")
	}
}

// roomy is a clock with odd frames in the room behind its own.
func roomy(c api.Clock) api.Clock {
	l := append(make([]api.Spot, 0, len(c.Spots)+5), c.Spots...)
	for i := len(l); i < cap(l); i++ {
		l[:cap(l)][i] = oddSpot(i)
	}
	return api.Clock{Spots: l, Hand: c.Hand}
}

func oddSpot(i int) api.Spot { return api.Spot{Page: 900 + i, Used: i%2 == 0, Pinned: i%3 == 0} }

// wantLeft holds a clock, and what lies behind its frames, against how roomy made it.
func wantLeft(t *testing.T, c, was api.Clock, of string) {
	t.Helper()
	if !alike(c, was) {
		t.Fatalf("%s: what was handed in, %v, became %v", of, was, c)
	}
	for i := len(c.Spots); i < cap(c.Spots); i++ {
		if c.Spots[:cap(c.Spots)][i] != oddSpot(i) {
			t.Fatalf("%s: what lies behind the frames was changed", of)
		}
	}
}

// spoil turns all frames, and the room behind them.
func spoil(c api.Clock) {
	l := c.Spots[:cap(c.Spots)]
	for i := range l {
		l[i] = api.Spot{Page: ^l[i].Page, Used: !l[i].Used, Pinned: !l[i].Pinned}
	}
}

// act is a call that tells a clock, with a name.
type act struct {
	name string
	do   func(c api.Clock) api.Clock
}

func acts() []act {
	var l []act
	for _, page := range []int{-1, 0, 1, 2, 3, 9, 63, 64} {
		l = append(l,
			act{fmt.Sprintf("Touch of %d", page), func(c api.Clock) api.Clock { c, _, _, _ = Touch(c, page); return c }},
			act{fmt.Sprintf("Pin of %d", page), func(c api.Clock) api.Clock { c, _ = Pin(c, page, true); return c }},
			act{fmt.Sprintf("letting go of %d", page), func(c api.Clock) api.Clock { c, _ = Pin(c, page, false); return c }},
			act{fmt.Sprintf("Drop of %d", page), func(c api.Clock) api.Clock { c, _ = Drop(c, page); return c }})
	}
	return l
}

// R3: what is handed in, and what lies behind it, is not changed; answers share no memory with it, nor with one another, beside an error neither.
func TestLeaves(t *testing.T) {
	var clocks []api.Clock
	for _, s := range slices.Concat(goodClocks(), badClocks()) {
		clocks = append(clocks, s.c)
	}
	clocks = append(clocks, at(0, "1u 2u 3u"), at(1, "1p 2up 3p"), at(2, "1u 2p 3"), at(0, "1 - 3u"))
	for _, was := range clocks {
		for _, a := range acts() {
			c := roomy(was)
			got, again := a.do(c), a.do(c)
			wantLeft(t, c, was, a.name)
			want := api.Clock{Spots: slices.Clone(got.Spots), Hand: got.Hand}
			spoil(got)
			wantLeft(t, c, was, a.name+", and its answer spoilt")
			if !alike(again, want) {
				t.Fatalf("%s of %v: two answers share memory, or are not alike", a.name, was)
			}
			spoil(c)
			if !alike(again, want) {
				t.Fatalf("%s of %v: the answer hangs on what was handed in", a.name, was)
			}
		}
		c := roomy(was)
		Check(c)
		Same(c, c)
		Same(c, at(0, "1"))
		wantLeft(t, c, was, "Check and Same")
	}
}

// R3: two new clocks share no memory.
func TestNewLeaves(t *testing.T) {
	for n := 1; n <= 64; n++ {
		a, _ := New(n)
		b, _ := New(n)
		spoil(a)
		if c, _ := New(n); !alike(b, c) || !alike(c, at(0, strings.Repeat("- ", n))) {
			t.Fatalf("clocks of %d frames share memory", n)
		}
	}
}
