package redo

import (
	"bytes"
	"fmt"
	"math"
	"math/rand/v2"
	"slices"
	"testing"

	"humus/api"
	"humus/tally"
)

// pageOf is 512 bytes that hang on a tag: no two tags from 0 to 255 have a byte alike at the same place.
func pageOf(tag int) []byte { return bytesOf(tag, 512) }

func bytesOf(tag, n int) []byte {
	b := make([]byte, n)
	for i := range b {
		b[i] = byte(tag + 101*i + 17*(i/128))
	}
	return b
}

// group is images of these pages, each with bytes of its own.
func group(pages ...int) []api.Image { return tagged(0, pages...) }

// tagged is images of these pages with bytes that hang on the tag too.
func tagged(tag int, pages ...int) []api.Image {
	var g []api.Image
	for i, p := range pages {
		g = append(g, api.Image{Page: p, B: pageOf(tag + 3*i + 1)})
	}
	return g
}

// textOf is what a record seals: so many images as it is told, whatever there are.
func textOf(count int, g []api.Image) []byte {
	b := []byte{byte(count)}
	for _, m := range g {
		b = append(append(b, byte(m.Page)), m.B...)
	}
	return b
}

// recordOf is bytes sealed, and ahead of them how many they are then.
func recordOf(text []byte) []byte {
	n := len(text) + 4
	sum := tally.Sum(text)
	b := []byte{byte(n / 256), byte(n % 256), byte(sum >> 24), byte(sum >> 16), byte(sum >> 8), byte(sum)}
	return append(b, text...)
}

// encoded is a group's record.
func encoded(t *testing.T, g []api.Image) []byte {
	t.Helper()
	b, e := Encode(g)
	if e != api.OK {
		t.Fatalf("Encode of pages %v: error %d", pagesOf(g), e)
	}
	return b
}

func pagesOf(g []api.Image) []int {
	var l []int
	for _, m := range g {
		l = append(l, m.Page)
	}
	return l
}

func sameImage(a, b api.Image) bool { return a.Page == b.Page && bytes.Equal(a.B, b.B) }

func sameImages(a, b []api.Image) bool { return slices.EqualFunc(a, b, sameImage) }

func sameGroups(a, b [][]api.Image) bool { return slices.EqualFunc(a, b, sameImages) }

func wantImages(t *testing.T, got, want []api.Image, of string) {
	t.Helper()
	if !slices.Equal(pagesOf(got), pagesOf(want)) {
		t.Fatalf("%s: pages %v, not %v", of, pagesOf(got), pagesOf(want))
	}
	for i := range got {
		if !bytes.Equal(got[i].B, want[i].B) {
			t.Fatalf("%s: the bytes of page %d are %d, %.4X.., not %d, %.4X..", of, got[i].Page, len(got[i].B), got[i].B, len(want[i].B), want[i].B)
		}
	}
}

func wantFirst(t *testing.T, b []byte, want []api.Image, took int, of string) {
	t.Helper()
	g, n, e := First(b)
	if e != api.OK || n != took {
		t.Fatalf("%s: First took %d, error %d, not %d, 0", of, n, e, took)
	}
	wantImages(t, g, want, of)
}

// wantNone holds that there is no group at the beginning, and why.
func wantNone(t *testing.T, b []byte, why api.Errno, of string) {
	t.Helper()
	if g, n, e := First(b); len(g) != 0 || n != 0 || e != why {
		t.Fatalf("%s: First = %d images, %d, error %d, not 0, 0, %d", of, len(g), n, e, why)
	}
	if l, n := Row(b); len(l) != 0 || n != 0 {
		t.Fatalf("%s: Row = %d groups, %d bytes", of, len(l), n)
	}
}

func wantRow(t *testing.T, b []byte, want [][]api.Image, took int, of string) {
	t.Helper()
	l, n := Row(b)
	if len(l) != len(want) || n != took {
		t.Fatalf("%s: Row = %d groups, %d bytes, not %d, %d", of, len(l), n, len(want), took)
	}
	for i := range l {
		wantImages(t, l[i], want[i], fmt.Sprintf("%s, group %d", of, i))
	}
}

// sample is images with a name.
type sample struct {
	name string
	g    []api.Image
}

func goodGroups() []sample {
	l := []sample{
		{"page 0", group(0)},
		{"page 63", group(63)},
		{"the first and the last page", group(0, 63)},
		{"neighbours", group(7, 8)},
		{"five", group(1, 2, 3, 5, 8)},
		{"the first six", group(0, 1, 2, 3, 4, 5)},
		{"the last six", group(58, 59, 60, 61, 62, 63)},
		{"six that are strewn", group(0, 9, 10, 31, 32, 63)},
		{"noughts", []api.Image{{Page: 0, B: make([]byte, 512)}}},
		{"all bits", []api.Image{{Page: 63, B: bytes.Repeat([]byte{255}, 512)}}},
		{"the same bytes twice", []api.Image{{Page: 1, B: pageOf(1)}, {Page: 2, B: pageOf(1)}}},
	}
	for p := range 64 {
		l = append(l, sample{fmt.Sprintf("page %d alone", p), group(p)})
	}
	return l
}

// long is images whose place i has so many bytes.
func long(g []api.Image, i, n int) []api.Image {
	g = slices.Clone(g)
	g[i].B = bytesOf(9, n)
	return g
}

func badGroups() []sample {
	l := []sample{
		{"nil", nil},
		{"none", []api.Image{}},
		{"seven", group(0, 1, 2, 3, 4, 5, 6)},
		{"twelve", group(0, 1, 2, 3, 4, 5, 6, 7, 8, 9, 10, 11)},
		{"page -1", group(-1)},
		{"page -1 ahead of others", group(-1, 0, 1)},
		{"page 64", group(64)},
		{"page 64 behind others", group(0, 63, 64)},
		{"page 65", group(65)},
		{"page 255", group(255)},
		{"a page that is 0 in a byte", group(256)},
		{"a page that is 3 in a byte", group(3 + 256)},
		{"the least page", group(math.MinInt)},
		{"the greatest page", group(math.MaxInt)},
		{"twice", group(3, 3)},
		{"twice 0", group(0, 0)},
		{"twice 63", group(63, 63)},
		{"twice at the end", group(0, 1, 2, 3, 4, 4)},
		{"falling", group(4, 3)},
		{"falling at the end", group(0, 1, 2, 3, 5, 4)},
		{"falling in the middle", group(1, 7, 6, 8)},
		{"twice, but not neighbours", group(1, 2, 1)},
		{"falling to the first", group(5, 9, 6)},
		{"the zero image", make([]api.Image, 1)},
		{"an image of nil bytes", []api.Image{{Page: 3}}},
	}
	for _, n := range []int{0, 1, 128, 511, 513, 1024} {
		l = append(l,
			sample{fmt.Sprintf("an image of %d bytes", n), long(group(3), 0, n)},
			sample{fmt.Sprintf("a last image of %d bytes", n), long(group(0, 1, 2, 3, 4, 5), 5, n)},
			sample{fmt.Sprintf("a first image of %d bytes", n), long(group(0, 1), 0, n)},
			sample{fmt.Sprintf("one of %d in the middle", n), long(group(5, 6, 7), 1, n)})
	}
	swapped := long(long(group(1, 2), 0, 511), 1, 513) // as many bytes in all as two should have
	return append(l, sample{"511 and 513", swapped})
}

// Re1: groups of one to six images, of all pages, are groups.
func TestCheckGroups(t *testing.T) {
	for _, s := range goodGroups() {
		if e := Check(s.g); e != api.OK {
			t.Errorf("%s: error %d", s.name, e)
		}
	}
}

// Re1: what is no group Check and Encode refuse, with ErrArg, and tell no record.
func TestCheckWhatIsNoGroup(t *testing.T) {
	for _, s := range badGroups() {
		if e := Check(s.g); e != api.ErrArg {
			t.Errorf("%s: Check: error %d", s.name, e)
		}
		if b, e := Encode(s.g); len(b) != 0 || e != api.ErrArg {
			t.Errorf("%s: Encode: %d bytes, error %d", s.name, len(b), e)
		}
	}
}

// Re1: strewn pages, a few of them, are a group just if they rise and are there.
func TestCheckStrewn(t *testing.T) {
	r := rand.New(rand.NewPCG(6, 1))
	groups := 0
	for range 20000 {
		var g []api.Image
		good := true
		n := r.IntN(8)
		for i := range n {
			p := 64*i/(n+1) + r.IntN(16) - 2
			g = append(g, api.Image{Page: p, B: make([]byte, 512)})
			good = good && p >= 0 && p <= 63 && (i == 0 || p > g[i-1].Page)
		}
		good = good && n >= 1 && n <= 6
		want := api.ErrArg
		if good {
			want = api.OK
			groups++
		}
		if e := Check(g); e != want {
			t.Fatalf("pages %v: error %d, not %d", pagesOf(g), e, want)
		}
	}
	if groups < 2000 || groups > 18000 {
		t.Fatalf("%d groups among the strewn ones", groups)
	}
}

// Re1, the chapter's example: a group of one image has 520 bytes: how many follow, the sum of what is behind it, one image, its page, its bytes.
func TestEncodeOne(t *testing.T) {
	b := encoded(t, []api.Image{{Page: 3, B: bytes.Repeat([]byte{7}, 512)}})
	if len(b) != 520 {
		t.Fatalf("%d bytes", len(b))
	}
	if b[0] != 0x02 || b[1] != 0x06 {
		t.Errorf("how many follow: %X", b[:2])
	}
	sum := tally.Sum(b[6:])
	if want := []byte{byte(sum >> 24), byte(sum >> 16), byte(sum >> 8), byte(sum)}; !bytes.Equal(b[2:6], want) {
		t.Errorf("the sum: %X, not %X", b[2:6], want)
	}
	if b[6] != 1 || b[7] != 3 || !bytes.Equal(b[8:], bytes.Repeat([]byte{7}, 512)) {
		t.Errorf("what is sealed: %.8X..", b[6:])
	}
}

// Re1: the records of groups of one to six images, byte by byte.
func TestEncodeGroups(t *testing.T) {
	for _, s := range goodGroups() {
		b, e := Encode(s.g)
		if want := recordOf(textOf(len(s.g), s.g)); e != api.OK || !bytes.Equal(b, want) {
			t.Errorf("%s: %.10X.. (%d bytes), error %d, not %.10X.. (%d bytes)", s.name, b, len(b), e, want, len(want))
		}
		if len(b) != 7+513*len(s.g) {
			t.Errorf("%s: %d bytes", s.name, len(b))
		}
	}
	if b := encoded(t, group(0, 1, 2, 3, 4, 5)); b[0] != 0x0C || b[1] != 0x0B || b[6] != 6 {
		t.Errorf("of six: %X", b[:7])
	}
}

// Re1: First tells a record's group again, and its bytes; what lies behind it is left.
func TestFirstGroups(t *testing.T) {
	for _, s := range goodGroups() {
		b := encoded(t, s.g)
		wantFirst(t, b, s.g, len(b), s.name)
		for _, behind := range [][]byte{{0}, {255, 255}, {2, 6, 1, 2, 3}, make([]byte, 600), b, b[:len(b)-1]} {
			wantFirst(t, append(slices.Clone(b), behind...), s.g, len(b), s.name+", and more")
		}
	}
}

// Re1: fewer than two bytes are no text.
func TestFirstOfFewerThanTwo(t *testing.T) {
	wantNone(t, nil, api.ErrText, "nil")
	wantNone(t, []byte{}, api.ErrText, "no bytes")
	for c := range 256 {
		wantNone(t, []byte{byte(c)}, api.ErrText, "one byte")
	}
}

// Re1: fewer bytes than the first two say are no text, whatever they are.
func TestFirstOfFewerThanSaid(t *testing.T) {
	for _, g := range [][]api.Image{group(0), group(3, 9), group(58, 59, 60, 61, 62, 63)} {
		b := encoded(t, g)
		for n := range len(b) {
			wantNone(t, b[:n], api.ErrText, fmt.Sprintf("%d bytes of %d", n, len(b)))
		}
		b[20] ^= 1
		wantNone(t, b[:len(b)-1], api.ErrText, "a bit turned, and a byte gone")
		wantNone(t, b, api.ErrSum, "a bit turned")
	}
	wantNone(t, []byte{255, 255}, api.ErrText, "the most that two bytes say")
	most := append([]byte{255, 255}, make([]byte, 65535)...)
	wantNone(t, most[:len(most)-1], api.ErrText, "the most, but one")
	wantNone(t, most, api.ErrSum, "the most, and all there")
	wantNone(t, []byte{0, 1}, api.ErrText, "one that is not there")
	wantNone(t, append([]byte{1, 0}, make([]byte, 255)...), api.ErrText, "255 of 256")
	wantNone(t, append([]byte{1, 0}, make([]byte, 256)...), api.ErrSum, "256 of 256")
}

// Re1: what follows is fewer than the four bytes of a sum: layer 2 says that it is no text, though more bytes lie behind.
func TestFirstOfNoSum(t *testing.T) {
	for n := range 4 {
		wantNone(t, append([]byte{0, byte(n)}, make([]byte, n)...), api.ErrText, "no sum")
		wantNone(t, append([]byte{0, byte(n)}, bytes.Repeat([]byte{255}, 40)...), api.ErrText, "no sum, and more behind")
	}
	wantNone(t, []byte{0, 4, 0, 0, 0, 0}, api.ErrSum, "the sum of nothing is another one")
	wantNone(t, []byte{0, 4, 255, 255, 255, 255}, api.ErrText, "nothing, sealed")
	wantNone(t, append([]byte{0, 4, 255, 255, 255, 255}, encoded(t, group(1))...), api.ErrText, "nothing, sealed, and a record")
}

// Re1: a sum that is another one, be it of bytes that are no group's.
func TestFirstOfAnotherSum(t *testing.T) {
	b := encoded(t, group(2, 4))
	for i := 2; i < len(b); i++ {
		for bit := range 8 {
			other := slices.Clone(b)
			other[i] ^= 1 << bit
			wantNone(t, other, api.ErrSum, fmt.Sprintf("byte %d, bit %d", i, bit))
		}
	}
	for _, text := range [][]byte{nil, {0}, {1}, textOf(7, group(0, 1, 2, 3, 4, 5, 6)), textOf(2, group(3, 3))} {
		other := recordOf(text)
		other[5]++
		wantNone(t, other, api.ErrSum, fmt.Sprintf("%d bytes that are no group's", len(text)))
	}
	short := recordOf(textOf(1, group(1)))
	short[1]-- // then the last byte is none of those that are summed
	wantNone(t, short, api.ErrSum, "one byte less than were sealed")
	more := append(recordOf(textOf(1, group(1))), 0)
	more[1]++
	wantNone(t, more, api.ErrSum, "one byte more than were sealed")
}

// Re1: sealed bytes with a right sum that are no group's are no text.
func TestFirstOfNoGroup(t *testing.T) {
	seven := group(0, 1, 2, 3, 4, 5, 6)
	for _, c := range []struct {
		name string
		text []byte
	}{
		{"none", nil},
		{"no images", []byte{0}},
		{"no images, and one there", textOf(0, group(1))},
		{"one, and none there", []byte{1}},
		{"six, and none there", []byte{6}},
		{"one, and two there", textOf(1, group(1, 2))},
		{"two, and one there", textOf(2, group(1))},
		{"six, and five there", textOf(6, group(1, 2, 3, 4, 5))},
		{"five, and six there", textOf(5, group(1, 2, 3, 4, 5, 6))},
		{"seven", textOf(7, seven)},
		{"six, and seven there", textOf(6, seven)},
		{"seven, and six there", textOf(7, seven[:6])},
		{"255, and one there", textOf(255, group(1))},
		{"a page alone", []byte{1, 3}},
		{"page 64", textOf(1, group(64))},
		{"page 64 behind 63", textOf(2, group(63, 64))},
		{"page 65", textOf(1, group(65))},
		{"page 128", textOf(1, group(128))},
		{"page 255", textOf(1, group(255))},
		{"page 255 ahead of 0", textOf(2, group(255, 0))},
		{"twice", textOf(2, group(3, 3))},
		{"twice 0", textOf(2, group(0, 0))},
		{"twice at the end", textOf(6, group(0, 1, 2, 3, 4, 4))},
		{"falling", textOf(2, group(4, 3))},
		{"falling at the end", textOf(6, group(0, 1, 2, 3, 5, 4))},
		{"twice, but not neighbours", textOf(3, group(1, 2, 1))},
		{"a byte missing", textOf(1, long(group(3), 0, 511))},
		{"a byte left over", textOf(1, long(group(3), 0, 513))},
		{"a byte of six missing", textOf(6, long(group(0, 1, 2, 3, 4, 5), 5, 511))},
		{"a byte of six left over", textOf(6, long(group(0, 1, 2, 3, 4, 5), 5, 513))},
		{"an image missing but its page", append(textOf(2, group(1)), 2)},
		{"many images", append([]byte{127}, make([]byte, 127*513)...)}, // 65152 bytes: 127 is the most that two bytes can say
	} {
		b := recordOf(c.text)
		wantNone(t, b, api.ErrText, c.name)
		wantNone(t, append(slices.Clone(b), encoded(t, group(1))...), api.ErrText, c.name+", and a record")
	}
}

// Re1: where more is wrong the first of the errors is told: too few bytes, then the sum, then that they are no group's.
func TestFirstWhichError(t *testing.T) {
	b := recordOf(textOf(2, group(3, 3)))
	wantNone(t, b, api.ErrText, "no group's")
	b[2] ^= 128
	wantNone(t, b, api.ErrSum, "another sum, and no group's")
	wantNone(t, b[:len(b)-1], api.ErrText, "too few, another sum, no group's")
}

// Re1: bytes that are taken for a record are read as its words say, whatever they are: strewn ones, with few of their bytes turned.
func TestFirstStrewn(t *testing.T) {
	r := rand.New(rand.NewPCG(6, 2))
	told := map[api.Errno]int{}
	for range 6000 {
		g := strewnImages(r)
		count := len(g) + []int{0, 0, 0, 0, 1, -1}[r.IntN(6)]
		text := textOf(count, g)
		if r.IntN(8) == 0 {
			text = text[:r.IntN(len(text)+1)]
		}
		b := recordOf(text)
		if r.IntN(6) == 0 {
			b[r.IntN(len(b))] ^= byte(1 + r.IntN(255))
		}
		if r.IntN(6) == 0 {
			b = b[:r.IntN(len(b)+1)]
		}
		if r.IntN(2) == 0 {
			b = append(b, bytesOf(r.IntN(256), r.IntN(300))...)
		}
		want, took, why := slowFirst(b)
		told[why]++
		if why != api.OK {
			wantNone(t, b, why, "strewn")
			continue
		}
		wantFirst(t, b, want, took, "strewn")
	}
	for _, why := range []api.Errno{api.OK, api.ErrText, api.ErrSum} {
		if told[why] < 300 {
			t.Errorf("error %d was told %d times", why, told[why])
		}
	}
}

// strewnImages is up to seven images, mostly a group.
func strewnImages(r *rand.Rand) []api.Image {
	var g []api.Image
	p := r.IntN(4)
	for range r.IntN(8) {
		g = append(g, api.Image{Page: p, B: pageOf(r.IntN(256))})
		p += 1 + r.IntN(10) - r.IntN(12)/11*3
		p = max(p, 0)
	}
	return g
}

// slowFirst goes by the chapter's words, one after the other.
func slowFirst(b []byte) ([]api.Image, int, api.Errno) {
	if len(b) < 2 {
		return nil, 0, api.ErrText
	}
	said := 256*int(b[0]) + int(b[1])
	rest := b[2:]
	if len(rest) < said {
		return nil, 0, api.ErrText
	}
	text, e := tally.Open(rest[:said])
	if e != api.OK {
		return nil, 0, e
	}
	var g []api.Image
	if len(text) == 0 {
		return nil, 0, api.ErrText
	}
	count := int(text[0])
	text = text[1:]
	for range count {
		if len(text) < 513 {
			return nil, 0, api.ErrText
		}
		p := int(text[0])
		if p > 63 || len(g) > 0 && p <= g[len(g)-1].Page {
			return nil, 0, api.ErrText
		}
		g = append(g, api.Image{Page: p, B: text[1:513]})
		text = text[513:]
	}
	if len(text) > 0 || count < 1 || count > 6 {
		return nil, 0, api.ErrText
	}
	return g, 2 + said, api.OK
}

// rowOf is the records of groups, one behind the other, and where each ends.
func rowOf(t *testing.T, groups [][]api.Image) ([]byte, []int) {
	t.Helper()
	var b []byte
	var ends []int
	for _, g := range groups {
		b = append(b, encoded(t, g)...)
		ends = append(ends, len(b))
	}
	return b, ends
}

// wholeAt is how many records stand whole in so many bytes, and where the last of them ends.
func wholeAt(ends []int, n int) (int, int) {
	whole, end := 0, 0
	for _, e := range ends {
		if e <= n {
			whole, end = whole+1, e
		}
	}
	return whole, end
}

// Re1: a row of no record tells none.
func TestRowOfNone(t *testing.T) {
	for _, b := range [][]byte{nil, {}, {0}, {0, 0}, make([]byte, 2000), bytes.Repeat([]byte{255}, 2000)} {
		if l, n := Row(b); len(l) != 0 || n != 0 {
			t.Errorf("%d odd bytes: %d groups, %d bytes", len(b), len(l), n)
		}
	}
}

// Re1: all groups of a row, in their order, with odd bytes behind them or none; groups may be alike, and pages there in many of them.
func TestRowOfMany(t *testing.T) {
	one := group(1)
	for _, groups := range [][][]api.Image{
		{one},
		{one, one},
		{group(0, 1, 2, 3, 4, 5), group(63), tagged(9, 63), group(2, 4)},
		{tagged(1, 5), tagged(2, 4), tagged(3, 3), tagged(4, 2), tagged(5, 1), tagged(6, 0), tagged(7, 0, 5)},
	} {
		b, _ := rowOf(t, groups)
		wantRow(t, b, groups, len(b), "alone")
		for _, odd := range [][]byte{{0}, {2}, {2, 6}, {0, 0}, {0, 4, 255, 255, 255, 255}, make([]byte, 3000), bytes.Repeat([]byte{255}, 700), recordOf(textOf(0, nil)), recordOf(textOf(2, group(9, 9)))} {
			wantRow(t, append(slices.Clone(b), odd...), groups, len(b), fmt.Sprintf("%d odd bytes behind", len(odd)))
			behind := append(append(slices.Clone(b), odd...), encoded(t, one)...)
			wantRow(t, behind, groups, len(b), "a record behind odd bytes is none of the row")
		}
	}
}

// Re1: a row longer than a device's stream.
func TestRowLong(t *testing.T) {
	var groups [][]api.Image
	for i := range 200 {
		groups = append(groups, tagged(i, i%64))
	}
	b, _ := rowOf(t, groups)
	wantRow(t, b, groups, 200*520, "200 records")
}

// Re3: records one behind the other, cut at each place: those are read that stand whole.
func TestRowCutAnywhere(t *testing.T) {
	groups := [][]api.Image{group(3), group(0, 63), tagged(50, 3), group(1, 2, 3, 4, 5, 6)}
	b, ends := rowOf(t, groups)
	for n := range len(b) + 1 {
		whole, end := wholeAt(ends, n)
		wantRow(t, b[:n], groups[:whole], end, fmt.Sprintf("cut at %d", n))
		wantRow(t, bytes.Clone(b[:n]), groups[:whole], end, fmt.Sprintf("cut at %d, nothing behind", n))
	}
}

// turned is bytes with the bits of a window of 32 turned: the window begins at a bit, the highest of a byte first.
func turned(b []byte, at int, bits uint32) []byte {
	b = slices.Clone(b)
	for i := range 32 {
		if bits>>(31-i)&1 == 1 {
			b[(at+i)/8] ^= 128 >> ((at + i) % 8)
		}
	}
	return b
}

// Re3: a record of which bits are turned, all within 32 behind its sum, is none, wherever they are: the record ahead of it is read, the one behind it not.
func TestTurnedBits(t *testing.T) {
	r := rand.New(rand.NewPCG(6, 3))
	g := group(4, 40)
	b := encoded(t, g)
	ahead, behind := encoded(t, group(9)), encoded(t, group(10))
	check := func(at int, bits uint32) {
		t.Helper()
		other := turned(b, at, bits)
		if bytes.Equal(other, b) {
			t.Fatalf("nothing is turned at %d by %08X", at, bits)
		}
		of := fmt.Sprintf("turned from bit %d on by %08X", at, bits)
		wantNone(t, other, api.ErrSum, of)
		row := slices.Concat(ahead, other, behind)
		wantRow(t, row, [][]api.Image{group(9)}, len(ahead), of)
	}
	last := 8*len(b) - 32
	for at := 8 * 6; at <= last; at++ {
		check(at, 1<<31)
		check(at, r.Uint32()|1)
	}
	for _, bits := range []uint32{1, 3, 0x80000001, 0xFFFFFFFF, 0x814141AB, 0xC0A0A0D5, 0xAAAAAAAA, 0x55555555} {
		for range 200 {
			check(8*6+r.IntN(last-8*6+1), bits)
		}
		check(8*6, bits)
		check(last, bits)
	}
}

// Re2: images as they are, with those of a group in their places, ahead of, between and behind them.
func TestApply(t *testing.T) {
	for _, c := range []struct {
		name             string
		pages, g, beyond []int
	}{
		{"one that is there", []int{3}, []int{3}, []int{3}},
		{"the first one", []int{1, 3, 5}, []int{1}, []int{1, 3, 5}},
		{"the middle one", []int{1, 3, 5}, []int{3}, []int{1, 3, 5}},
		{"the last one", []int{1, 3, 5}, []int{5}, []int{1, 3, 5}},
		{"all", []int{1, 3, 5}, []int{1, 3, 5}, []int{1, 3, 5}},
		{"ahead", []int{1, 3, 5}, []int{0}, []int{0, 1, 3, 5}},
		{"between", []int{1, 3, 5}, []int{2}, []int{1, 2, 3, 5}},
		{"between the last ones", []int{1, 3, 5}, []int{4}, []int{1, 3, 4, 5}},
		{"behind", []int{1, 3, 5}, []int{6}, []int{1, 3, 5, 6}},
		{"everywhere", []int{1, 3, 5}, []int{0, 2, 4, 6}, []int{0, 1, 2, 3, 4, 5, 6}},
		{"some there and some not", []int{1, 3, 5}, []int{0, 1, 4, 5, 63}, []int{0, 1, 3, 4, 5, 63}},
		{"many ahead", []int{60, 61}, []int{1, 2, 3}, []int{1, 2, 3, 60, 61}},
		{"many behind", []int{1, 2}, []int{60, 61, 62, 63}, []int{1, 2, 60, 61, 62, 63}},
		{"many between two", []int{1, 60}, []int{2, 3, 4, 5}, []int{1, 2, 3, 4, 5, 60}},
		{"no pages", nil, []int{2, 4}, []int{2, 4}},
		{"no images", []int{2, 4}, nil, []int{2, 4}},
		{"neither", nil, nil, nil},
	} {
		pages, g := tagged(0, c.pages...), tagged(100, c.g...)
		got := Apply(pages, g)
		if !slices.Equal(pagesOf(got), c.beyond) {
			t.Errorf("%s: pages %v, not %v", c.name, pagesOf(got), c.beyond)
		}
		wantImages(t, got, slowApply(pages, g), c.name)
	}
	if got := Apply([]api.Image{}, []api.Image{}); len(got) != 0 {
		t.Errorf("of none: %d images", len(got))
	}
}

// slowApply asks of each page, from the first on, who has it.
func slowApply(pages, g []api.Image) []api.Image {
	var l []api.Image
	for p := range 64 {
		has := func(m api.Image) bool { return m.Page == p }
		if i := slices.IndexFunc(g, has); i >= 0 {
			l = append(l, g[i])
		} else if i := slices.IndexFunc(pages, has); i >= 0 {
			l = append(l, pages[i])
		}
	}
	return l
}

// Re2: strewn pages, up to all 64, and strewn groups, one behind the other.
func TestApplyStrewn(t *testing.T) {
	r := rand.New(rand.NewPCG(6, 4))
	for round := range 300 {
		pages := tagged(round, some(r, r.IntN(65))...)
		for i := range 6 {
			g := tagged(r.IntN(256), some(r, 1+r.IntN(6))...)
			if Check(g) != api.OK {
				t.Fatalf("pages %v are no group", pagesOf(g))
			}
			want := slowApply(pages, g)
			got := Apply(pages, g)
			wantImages(t, got, want, fmt.Sprintf("round %d, group %d", round, i))
			pages = got
		}
	}
}

// some is n of the 64 pages, by rising number.
func some(r *rand.Rand, n int) []int {
	l := r.Perm(64)[:n]
	slices.Sort(l)
	return l
}

// Re2: what is handed to Apply need be no group, and its images no page's bytes: more than six, of any length and page, are put in their places too.
func TestApplyOfNoGroup(t *testing.T) {
	pages := []api.Image{{Page: -9, B: []byte("a")}, {Page: 64, B: []byte("bc")}, {Page: 1000}}
	g := []api.Image{{Page: math.MinInt, B: []byte("d")}, {Page: -9, B: nil}, {Page: 5, B: bytesOf(1, 513)}, {Page: 64, B: []byte("e")}, {Page: 65}, {Page: 66}, {Page: 67}, {Page: math.MaxInt, B: []byte("f")}}
	wantImages(t, Apply(pages, g), []api.Image{g[0], g[1], g[2], g[3], g[4], g[5], g[6], pages[2], g[7]}, "more than a group")
}

// R1: images of g that do not rise are put one after the other, and pages that do not rise are no reason to panic.
func TestApplyOutOfOrder(t *testing.T) {
	g := []api.Image{{Page: 5, B: []byte("a")}, {Page: 1, B: []byte("b")}, {Page: 5, B: []byte("c")}, {Page: 3, B: []byte("d")}}
	want := []api.Image{g[1], {Page: 2}, g[3], g[2]}
	wantImages(t, Apply([]api.Image{{Page: 2}, {Page: 3}}, g), want, "a group that does not rise")
	r := rand.New(rand.NewPCG(6, 5))
	for range 500 {
		var a, b []api.Image
		for range r.IntN(12) {
			a = append(a, api.Image{Page: r.IntN(9) - 2, B: bytesOf(1, r.IntN(3))})
			b = append(b, api.Image{Page: r.IntN(9) - 2, B: bytesOf(2, r.IntN(3))})
		}
		got := Apply(a, b)
		for i := range got {
			if i > 0 && got[i].Page <= got[i-1].Page {
				t.Fatalf("pages %v do not rise", pagesOf(got))
			}
		}
	}
}

// Re3: groups that are read again from a row, cut anywhere, and applied one behind the other, make what those that stand whole make.
func TestRowApplied(t *testing.T) {
	groups := [][]api.Image{tagged(1, 0, 1), tagged(2, 1, 2), tagged(3, 0), tagged(4, 5)}
	b, ends := rowOf(t, groups)
	for n := 0; n <= len(b); n += 7 {
		l, _ := Row(b[:n])
		whole, _ := wholeAt(ends, n)
		var got, want []api.Image
		for _, g := range l {
			got = Apply(got, g)
		}
		for _, g := range groups[:whole] {
			want = slowApply(want, g)
		}
		wantImages(t, got, want, fmt.Sprintf("cut at %d", n))
	}
}

// spoil turns all bits of images, and of their spare room.
func spoil(g []api.Image) {
	g = g[:cap(g)]
	for i := range g {
		g[i].Page = ^g[i].Page
		spoilBytes(g[i].B)
	}
}

func spoilBytes(b []byte) {
	b = b[:cap(b)]
	for i := range b {
		b[i] ^= 255
	}
}

// deep is a copy with odd spare room behind each list.
func deep(g []api.Image) []api.Image {
	l := make([]api.Image, 0, len(g)+3)
	for _, m := range g {
		b := append(make([]byte, 0, len(m.B)+9), m.B...)
		copy(b[len(b):cap(b)], "abcdefghi")
		l = append(l, api.Image{Page: m.Page, B: b})
	}
	for i := range 3 {
		l[:cap(l)][len(g)+i] = api.Image{Page: 7 - i, B: []byte("odd")}
	}
	return l
}

// wantLeft holds images, and what lies behind their ends, against how deep made them.
func wantLeft(t *testing.T, g, was []api.Image, of string) {
	t.Helper()
	want := deep(was)
	if len(g) != len(want) || !sameImages(g[:cap(g)], want[:cap(want)]) {
		t.Fatalf("%s: what was handed in was changed", of)
	}
	for i := range g {
		if b, w := g[i].B, want[i].B; !bytes.Equal(b[:cap(b)], w[:cap(w)]) {
			t.Fatalf("%s: what lies behind image %d was changed", of, i)
		}
	}
}

// Re1, with R3: Check and Encode leave what they are given; records share nothing.
func TestEncodeLeaves(t *testing.T) {
	was := group(1, 5, 9)
	g := deep(was)
	if Check(g) != api.OK {
		t.Fatal("Check")
	}
	b, c := encoded(t, g), encoded(t, g)
	wantLeft(t, g, was, "Encode")
	want := bytes.Clone(b)
	spoil(g)
	if !bytes.Equal(b, want) {
		t.Error("the record hangs on what was handed in")
	}
	spoilBytes(b)
	if !bytes.Equal(c, want) {
		t.Error("two records share memory")
	}
	d := deep(was)
	b = encoded(t, d)
	spoilBytes(b)
	wantLeft(t, d, was, "a record that is spoilt")
	bad := deep(group(5, 1))
	Check(bad)
	Encode(bad)
	wantLeft(t, bad, group(5, 1), "no group")
}

// wantApart spoils the images one by one, and holds that the others are left.
func wantApart(t *testing.T, g []api.Image, of string) {
	t.Helper()
	was := deep(g)
	for i := range g {
		spoilBytes(g[i].B)
		for k := i + 1; k < len(g); k++ {
			if !sameImage(g[k], was[k]) {
				t.Fatalf("%s: images %d and %d share memory", of, i, k)
			}
		}
	}
}

// Re1, with R3: First and Row leave what they are given; groups share nothing with it, with one another, and their images neither.
func TestFirstLeaves(t *testing.T) {
	groups := [][]api.Image{group(1, 5, 9), group(0, 1, 2, 3, 4, 5)}
	b, _ := rowOf(t, groups)
	b = append(b, "odd"...)
	was := bytes.Clone(b)
	whole := bytes.Clone(b)
	part := b[:len(b)-3] // what lies behind its end is odd
	g, n, _ := First(part)
	l, m := Row(part)
	if n != 7+3*513 || m != len(part) {
		t.Fatalf("First took %d, Row %d", n, m)
	}
	again, _ := Row(part)
	if !bytes.Equal(b, was) {
		t.Fatal("what was handed in was changed")
	}
	spoilBytes(b)
	wantImages(t, g, groups[0], "First, when its bytes are spoilt")
	if !sameGroups(l, groups) {
		t.Fatal("Row's groups hang on what was handed in")
	}
	spoil(g)
	if !sameGroups(l, groups) {
		t.Fatal("First and Row share memory")
	}
	spoil(l[0])
	wantImages(t, l[1], groups[1], "Row, when its first group is spoilt")
	wantApart(t, l[1], "Row")
	if !sameGroups(again, groups) {
		t.Fatal("two rows share memory")
	}
	c, _, _ := First(whole)
	wantApart(t, c, "First")
	if !bytes.Equal(whole, was) {
		t.Fatal("a group shares memory with its bytes")
	}
}

// Re2, with R3: Apply leaves what it is given; its images share nothing with it, nor with one another.
func TestApplyLeaves(t *testing.T) {
	for _, c := range []struct{ pages, g []int }{
		{[]int{1, 3, 5}, []int{0, 3, 4, 6}},
		{[]int{1, 3, 5}, []int{6}},
		{[]int{1, 3, 5}, nil},
		{nil, []int{1, 3}},
		{[]int{5}, []int{1}},
		{nil, nil},
	} {
		pagesWas, gWas := tagged(0, c.pages...), tagged(100, c.g...)
		want := slowApply(pagesWas, gWas)
		pages, g := deep(pagesWas), deep(gWas)
		got, again := Apply(pages, g), Apply(pages, g)
		wantLeft(t, pages, pagesWas, "pages")
		wantLeft(t, g, gWas, "g")
		wantApart(t, Apply(pages, g), "Apply")
		wantLeft(t, pages, pagesWas, "pages, when the answer is spoilt")
		wantLeft(t, g, gWas, "g, when the answer is spoilt")
		spoil(pages)
		spoil(g)
		wantImages(t, got, want, "when what was handed in is spoilt")
		spoil(got)
		wantImages(t, again, want, "when another answer is spoilt")
	}
	g := deep(group(4, 2))
	pages := deep(group(3, 1))
	Apply(pages, g)
	wantLeft(t, g, group(4, 2), "a group that falls")
	wantLeft(t, pages, group(3, 1), "pages that fall")
	same := deep(group(1, 2))
	wantImages(t, Apply(same, same), group(1, 2), "the same list twice")
	wantLeft(t, same, group(1, 2), "the same list twice")
}

// R4: the same bytes are told the same, whatever was asked ahead.
func TestSameAgain(t *testing.T) {
	b, _ := rowOf(t, [][]api.Image{group(1), group(2, 3)})
	first, n := Row(b)
	First(b[:9])
	Row(nil)
	Apply(nil, group(1))
	second, m := Row(b)
	if n != m || !sameGroups(first, second) {
		t.Error("another row")
	}
}
