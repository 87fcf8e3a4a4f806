package device

import (
	"bytes"
	"fmt"
	"math"
	"math/rand/v2"
	"slices"
	"testing"

	"humus/api"
)

// open is a device of so many pages.
func open(t *testing.T, pages int) *Device {
	t.Helper()
	d, e := New(pages)
	if d == nil || e != api.OK {
		t.Fatalf("New(%d) = %v, %d", pages, d, e)
	}
	return d
}

// pageOf is 512 bytes: neither two of its sectors, nor pages with other tags from 0 to 255, have a byte alike at the same place.
func pageOf(tag int) []byte {
	b := make([]byte, 512)
	for i := range b {
		b[i] = byte(tag + 101*i + 17*(i/128))
	}
	return b
}

// textOf is so many bytes that tell their places.
func textOf(n int) []byte {
	b := make([]byte, n)
	for i := range b {
		b[i] = byte(i*7 + i>>8)
	}
	return b
}

// look is all that a device tells.
type look struct {
	pages          []string
	base           int
	stream         string
	sectors, units int
	gone           bool
}

func lookAt(t *testing.T, d *Device) look {
	t.Helper()
	l := look{gone: d.Gone()}
	for i := range d.Pages() {
		b, e := d.Read(i)
		if e != api.OK || len(b) != 512 {
			t.Fatalf("Read(%d): %d bytes, error %d", i, len(b), e)
		}
		l.pages = append(l.pages, string(b))
	}
	base, b := d.Stream()
	l.base, l.stream = base, string(b)
	l.sectors, l.units = d.Pending()
	return l
}

func (l look) String() string {
	s := fmt.Sprintf("stream %d %.40q (%d bytes), pending %d %d, gone %v", l.base, l.stream, len(l.stream), l.sectors, l.units, l.gone)
	for i, p := range l.pages {
		s += fmt.Sprintf(", page %d", i)
		for k := 0; k+128 <= len(p); k += 128 {
			s += fmt.Sprintf(" %02X..%02X", p[k], p[k+127])
		}
	}
	return s
}

func sameLook(a, b look) bool {
	return slices.Equal(a.pages, b.pages) && a.base == b.base && a.stream == b.stream &&
		a.sectors == b.sectors && a.units == b.units && a.gone == b.gone
}

func wantLook(t *testing.T, d *Device, want look, of string) {
	t.Helper()
	if got := lookAt(t, d); !sameLook(got, want) {
		t.Fatalf("%s:\ngot  %v\nwant %v", of, got, want)
	}
}

func wantErr(t *testing.T, got, want api.Errno, of string) {
	t.Helper()
	if got != want {
		t.Fatalf("%s: error %d, want %d", of, got, want)
	}
}

func wantPending(t *testing.T, d *Device, sectors, units int, of string) {
	t.Helper()
	if s, u := d.Pending(); s != sectors || u != units {
		t.Fatalf("%s: Pending = %d, %d, want %d, %d", of, s, u, sectors, units)
	}
}

func wantStream(t *testing.T, d *Device, base int, text, of string) {
	t.Helper()
	if at, b := d.Stream(); at != base || string(b) != text {
		t.Fatalf("%s: Stream = %d, %.60q, want %d, %.60q", of, at, b, base, text)
	}
}

// wantSectors holds a page's sectors against those of the pages with these tags.
func wantSectors(t *testing.T, d *Device, page int, tags [4]int, of string) {
	t.Helper()
	b, e := d.Read(page)
	if e != api.OK || len(b) != 512 {
		t.Fatalf("%s: Read(%d): %d bytes, error %d", of, page, len(b), e)
	}
	for k, tag := range tags {
		want := make([]byte, 128)
		if tag >= 0 { // below: noughts
			want = pageOf(tag)[k*128 : k*128+128]
		}
		if !bytes.Equal(b[k*128:k*128+128], want) {
			t.Fatalf("%s: page %d, sector %d is not the one of tag %d", of, page, k, tag)
		}
	}
}

// do is a call that must go well.
func do(t *testing.T, e api.Errno) {
	t.Helper()
	wantErr(t, e, api.OK, "a call that must go well")
}

// a paper is a device by the document's words: all units in a row, gone through from the first on whenever something is asked.
type paper struct {
	pages int
	units []unit
	armed bool
	left  int
	gone  bool
}

// A unit is a sector's write (text of 128 bytes), a byte of the stream (text of one), or a trimming.
type unit struct {
	stream       bool
	page, sector int
	trims        bool
	place        int
	text         string
	synced, lost bool
}

func (p *paper) add(u unit) {
	if p.armed && !p.gone {
		p.gone = p.left == 0
		p.left--
	}
	u.lost = p.gone
	p.units = append(p.units, u)
}

func (p *paper) look() look {
	l := look{gone: p.gone}
	sectors := make([]string, 4*p.pages)
	for i := range sectors {
		sectors[i] = string(make([]byte, 128))
	}
	stream := []byte{}
	for _, u := range p.units {
		pending := !u.synced && !u.lost
		switch {
		case u.stream && u.trims:
			stream, l.base = stream[u.place-l.base:], u.place
		case u.stream:
			stream = append(stream, u.text...)
		default:
			sectors[4*u.page+u.sector] = u.text
		}
		if pending && u.stream {
			l.units++
		} else if pending {
			l.sectors++
		}
	}
	l.stream = string(stream)
	for i := range p.pages {
		l.pages = append(l.pages, sectors[4*i]+sectors[4*i+1]+sectors[4*i+2]+sectors[4*i+3])
	}
	return l
}

func (p *paper) write(page int, b []byte) api.Errno {
	if page < 0 || page >= p.pages {
		return api.ErrNone
	}
	if len(b) != 512 {
		return api.ErrArg
	}
	for k := range 4 {
		p.add(unit{page: page, sector: k, text: string(b[128*k : 128*k+128])})
	}
	return api.OK
}

func (p *paper) append(b []byte) api.Errno {
	if len(p.look().stream)+len(b) > 65536 {
		return api.ErrLog
	}
	for _, x := range b {
		p.add(unit{stream: true, text: string([]byte{x})})
	}
	return api.OK
}

func (p *paper) trim(place int) api.Errno {
	l := p.look()
	if place < l.base || place > l.base+len(l.stream) {
		return api.ErrArg
	}
	p.add(unit{stream: true, trims: true, place: place})
	return api.OK
}

func (p *paper) sync() {
	for i := range p.units {
		p.units[i].synced = p.units[i].synced || !p.gone
	}
}

func (p *paper) arm(n int) {
	if !p.gone {
		p.armed, p.left = n >= 0, n
	}
}

func (p *paper) crash(pattern []bool, units int) {
	stays := []unit{}
	i := 0
	for _, u := range p.units {
		keep := u.synced
		switch {
		case u.synced || u.lost:
		case u.stream:
			keep = units > 0
			units--
		default:
			keep = len(pattern) > 0 && pattern[i%len(pattern)]
			i++
		}
		if keep {
			u.synced = true
			stays = append(stays, u)
		}
	}
	*p = paper{pages: p.pages, units: stays}
}

// Dv1: there are 1 to 64 pages, noughts at first, and an empty stream at 0.
func TestNew(t *testing.T) {
	for _, n := range []int{math.MinInt, -65, -64, -1, 0, 65, 66, 128, 1 << 31, 1 << 55, math.MaxInt} {
		if d, e := New(n); d != nil || e != api.ErrArg {
			t.Errorf("New(%d) = %v, %d", n, d, e)
		}
	}
	for _, n := range []int{1, 2, 3, 32, 63, 64} {
		d := open(t, n)
		if d.Pages() != n {
			t.Errorf("New(%d): %d pages", n, d.Pages())
		}
		want := look{pages: slices.Repeat([]string{string(make([]byte, 512))}, n)}
		wantLook(t, d, want, fmt.Sprint("New of ", n))
	}
}

// Dv1: pages that there are hold what was written last, each its own; those that there are not are ErrNone, ahead of bytes that may not be.
func TestPagesThatThereAre(t *testing.T) {
	for _, n := range []int{1, 2, 64} {
		d := open(t, n)
		want := look{}
		for i := range n {
			do(t, d.Write(i, pageOf(200-i)))
			do(t, d.Write(i, pageOf(i)))
			want.pages = append(want.pages, string(pageOf(i)))
			want.sectors += 8
		}
		wantLook(t, d, want, "written")
		if d.Pages() != n {
			t.Errorf("%d pages, want %d", d.Pages(), n)
		}
		for _, page := range []int{math.MinInt, -n, -1, n, n + 1, 64, 65, 1 << 55, math.MaxInt} {
			if b, e := d.Read(page); len(b) != 0 || e != api.ErrNone {
				t.Errorf("Read(%d) of %d pages: %d bytes, error %d", page, n, len(b), e)
			}
			for _, b := range [][]byte{pageOf(99), nil, make([]byte, 511), make([]byte, 513)} {
				wantErr(t, d.Write(page, b), api.ErrNone, fmt.Sprintf("Write(%d, %d bytes) of %d pages", page, len(b), n))
			}
		}
		wantLook(t, d, want, "pages that there are not")
	}
}

// Dv1: a page has 512 bytes, no more and no fewer.
func TestBytesOfPages(t *testing.T) {
	d := open(t, 2)
	do(t, d.Write(0, pageOf(1)))
	want := lookAt(t, d)
	for _, n := range []int{0, 1, 127, 128, 384, 511, 513, 640, 1024, 65536} {
		for page := range 2 {
			wantErr(t, d.Write(page, textOf(n)), api.ErrArg, fmt.Sprint("a page of bytes ", n))
		}
	}
	wantErr(t, d.Write(1, nil), api.ErrArg, "nil")
	wantLook(t, d, want, "bytes that are no page")
	do(t, d.Write(1, pageOf(2)[:512]))
	wantSectors(t, d, 0, [4]int{1, 1, 1, 1}, "the other page")
	wantSectors(t, d, 1, [4]int{2, 2, 2, 2}, "512 bytes")
}

// Dv1: bytes follow one another in the stream, 65536 of them at most.
func TestAppend(t *testing.T) {
	d := open(t, 1)
	text := textOf(65536)
	do(t, d.Append(nil))
	do(t, d.Append([]byte{}))
	wantStream(t, d, 0, "", "nothing appended")
	wantErr(t, d.Append(textOf(65537)), api.ErrLog, "65537 bytes at once")
	wantErr(t, d.Append(textOf(1<<20)), api.ErrLog, "2^20 bytes at once")
	wantPending(t, d, 0, 0, "nothing appended")
	for _, cut := range [][2]int{{0, 1}, {1, 3}, {3, 3}, {3, 65000}, {65000, 65535}} {
		do(t, d.Append(text[cut[0]:cut[1]]))
		wantStream(t, d, 0, string(text[:cut[1]]), "appended")
	}
	want := lookAt(t, d)
	wantErr(t, d.Append([]byte("xy")), api.ErrLog, "two bytes, where there is room for one")
	wantErr(t, d.Append(text), api.ErrLog, "65536 bytes, where there is room for one")
	wantLook(t, d, want, "refused")
	do(t, d.Append(text[65535:]))
	wantStream(t, d, 0, string(text), "just full")
	want = lookAt(t, d)
	wantErr(t, d.Append([]byte{0}), api.ErrLog, "one byte more")
	do(t, d.Append(nil))
	wantLook(t, d, want, "full")

	d = open(t, 1)
	do(t, d.Append(text))
	wantStream(t, d, 0, string(text), "65536 bytes at once")
}

// Dv1: behind a Trim there is room for as many bytes as are gone, kept or not, and whether the power is there or not.
func TestAppendBehindTrim(t *testing.T) {
	for _, how := range []string{"pending", "synced", "gone", "crashed"} {
		d := open(t, 1)
		text := textOf(65536)
		if how == "gone" {
			d.Arm(100)
		}
		do(t, d.Append(text))
		do(t, d.Trim(300))
		switch how {
		case "synced":
			d.Sync()
		case "crashed":
			d.Crash(nil, math.MaxInt)
		}
		wantErr(t, d.Append(textOf(301)), api.ErrLog, how+": one byte too many behind a Trim")
		wantStream(t, d, 300, string(text[300:]), how+": trimmed")
		do(t, d.Append(textOf(299)))
		wantErr(t, d.Append([]byte("xy")), api.ErrLog, how+": one more")
		do(t, d.Append([]byte("x")))
		wantErr(t, d.Append([]byte("y")), api.ErrLog, how+": full again")
		wantStream(t, d, 300, string(text[300:])+string(textOf(299))+"x", how+": full again")
		do(t, d.Trim(300+65536))
		wantStream(t, d, 65836, "", how+": all trimmed")
		do(t, d.Append(text))
		wantErr(t, d.Append([]byte("y")), api.ErrLog, how+": full for a third time")
		wantStream(t, d, 65836, string(text), how+": full for a third time")
	}
}

// Dv1: a trimming is from Base on, to the place behind the stream's end.
func TestTrim(t *testing.T) {
	d := open(t, 1)
	for _, place := range []int{math.MinInt, -1, 1, math.MaxInt} {
		wantErr(t, d.Trim(place), api.ErrArg, fmt.Sprint("an empty stream, Trim ", place))
	}
	do(t, d.Trim(0))
	wantStream(t, d, 0, "", "an empty stream")
	do(t, d.Append([]byte("abcdefgh")))
	steps := []struct {
		place int
		error api.Errno
		base  int
		text  string
	}{
		{-1, api.ErrArg, 0, "abcdefgh"},
		{9, api.ErrArg, 0, "abcdefgh"},
		{0, api.OK, 0, "abcdefgh"},
		{3, api.OK, 3, "defgh"},
		{2, api.ErrArg, 3, "defgh"},
		{0, api.ErrArg, 3, "defgh"},
		{9, api.ErrArg, 3, "defgh"},
		{math.MinInt, api.ErrArg, 3, "defgh"},
		{math.MaxInt, api.ErrArg, 3, "defgh"},
		{3, api.OK, 3, "defgh"},
		{7, api.OK, 7, "h"},
		{8, api.OK, 8, ""},
		{7, api.ErrArg, 8, ""},
		{9, api.ErrArg, 8, ""},
		{8, api.OK, 8, ""},
	}
	for _, s := range steps {
		_, ahead := d.Pending()
		wantErr(t, d.Trim(s.place), s.error, fmt.Sprint("Trim ", s.place))
		wantStream(t, d, s.base, s.text, fmt.Sprint("Trim ", s.place))
		if s.error == api.OK {
			ahead++
		}
		wantPending(t, d, 0, ahead, fmt.Sprint("Trim ", s.place))
	}
	do(t, d.Append([]byte("ij")))
	wantStream(t, d, 8, "ij", "bytes behind all that was trimmed")
	do(t, d.Trim(9))
	wantStream(t, d, 9, "j", "trimmed again")
}

// Dv2: each sector, each byte and each trimming is pending till it is synced; what is refused is not.
func TestPending(t *testing.T) {
	d := open(t, 2)
	wantPending(t, d, 0, 0, "New")
	do(t, d.Write(0, pageOf(1)))
	wantPending(t, d, 4, 0, "a page")
	do(t, d.Write(1, pageOf(1)))
	do(t, d.Write(1, pageOf(1)))
	wantPending(t, d, 12, 0, "a page twice with the same bytes")
	do(t, d.Append([]byte("abc")))
	wantPending(t, d, 12, 3, "three bytes")
	do(t, d.Append(nil))
	wantPending(t, d, 12, 3, "no bytes")
	do(t, d.Trim(2))
	wantPending(t, d, 12, 4, "a trimming")
	do(t, d.Trim(2))
	wantPending(t, d, 12, 5, "a trimming of nothing")
	d.Write(2, pageOf(1))
	d.Write(0, nil)
	d.Append(make([]byte, 65536))
	d.Trim(1)
	d.Trim(9)
	wantPending(t, d, 12, 5, "what is refused")
	d.Read(0)
	d.Stream()
	d.Arm(-1)
	d.Gone()
	wantPending(t, d, 12, 5, "what turns nothing")
	d.Sync()
	wantPending(t, d, 0, 0, "Sync")
	d.Sync()
	wantPending(t, d, 0, 0, "Sync again")
	do(t, d.Append([]byte("d")))
	wantPending(t, d, 0, 1, "a byte behind a Sync")
	do(t, d.Write(1, pageOf(3)))
	wantPending(t, d, 4, 1, "a page behind a Sync")
	d.Crash([]bool{true}, 1)
	wantPending(t, d, 0, 0, "Crash that keeps all")
	do(t, d.Write(1, pageOf(4)))
	do(t, d.Trim(4))
	d.Crash(nil, 0)
	wantPending(t, d, 0, 0, "Crash that keeps nothing")
}

// Dv2: what is synced is not undone by a crash that keeps nothing; what came behind the Sync is.
func TestSync(t *testing.T) {
	d := open(t, 2)
	do(t, d.Write(0, pageOf(1)))
	do(t, d.Append([]byte("abcdef")))
	do(t, d.Trim(2))
	seen := lookAt(t, d)
	d.Sync()
	seen.sectors, seen.units = 0, 0
	wantLook(t, d, seen, "Sync turns nothing that is seen")
	do(t, d.Write(0, pageOf(2)))
	do(t, d.Write(1, pageOf(3)))
	do(t, d.Append([]byte("ghi")))
	do(t, d.Trim(8))
	wantStream(t, d, 8, "i", "seen at once")
	wantSectors(t, d, 0, [4]int{2, 2, 2, 2}, "seen at once")
	d.Crash(nil, 0)
	wantLook(t, d, seen, "a crash behind a Sync")
}

// Dv2: armed with n the next n units count, whatever they are; at the one behind them the power goes.
func TestArm(t *testing.T) {
	// One page (units 0 to 3), three bytes (4 to 6), a trimming (7), a trimming of nothing (8), no bytes, a page (9 to 12).
	act := func(d *Device) {
		do(t, d.Write(0, pageOf(1)))
		do(t, d.Append([]byte("abc")))
		do(t, d.Trim(2))
		do(t, d.Trim(2))
		do(t, d.Append(nil))
		do(t, d.Write(1, pageOf(2)))
	}
	for n := -3; n <= 16; n++ {
		d := open(t, 2)
		d.Arm(n)
		if d.Gone() {
			t.Fatalf("Arm(%d): gone at once", n)
		}
		act(d)
		of := fmt.Sprintf("armed with %d", n)
		if want := n >= 0 && n < 13; d.Gone() != want {
			t.Fatalf("%s: Gone = %v", of, !want)
		}
		count := n
		if n < 0 {
			count = 13
		}
		sectors := min(count, 4) + min(max(count-9, 0), 4)
		units := min(max(count-4, 0), 5)
		wantPending(t, d, sectors, units, of)
		wantSectors(t, d, 0, [4]int{1, 1, 1, 1}, of)
		wantSectors(t, d, 1, [4]int{2, 2, 2, 2}, of)
		wantStream(t, d, 2, "c", of)
		d.Crash([]bool{true}, math.MaxInt)
		tags := [8]int{-1, -1, -1, -1, -1, -1, -1, -1}
		for i := range sectors {
			tags[i] = 1 + i/4
		}
		wantSectors(t, d, 0, [4]int(tags[:4]), of)
		wantSectors(t, d, 1, [4]int(tags[4:]), of)
		base, text := 0, "abc"[:min(units, 3)]
		if units > 3 {
			base, text = 2, "c"
		}
		wantStream(t, d, base, text, of)
		wantPending(t, d, 0, 0, of)
		if d.Gone() {
			t.Fatalf("%s: gone behind a crash", of)
		}
	}
}

// Dv2: the power goes at the unit, not ahead of it; calls that do nothing, or are refused, are no units.
func TestArmCountsUnitsAlone(t *testing.T) {
	d := open(t, 1)
	do(t, d.Append([]byte("ab")))
	d.Arm(0)
	do(t, d.Append(nil))
	wantErr(t, d.Append(make([]byte, 65535)), api.ErrLog, "too long")
	wantErr(t, d.Trim(3), api.ErrArg, "too far")
	wantErr(t, d.Trim(-1), api.ErrArg, "too near")
	wantErr(t, d.Write(1, pageOf(1)), api.ErrNone, "no page")
	wantErr(t, d.Write(0, make([]byte, 511)), api.ErrArg, "no page's bytes")
	d.Read(0)
	d.Stream()
	d.Pending()
	d.Sync()
	if d.Gone() {
		t.Fatal("gone without a unit")
	}
	wantPending(t, d, 0, 0, "a Sync ahead of the unit at which the power goes")
	do(t, d.Trim(0))
	if !d.Gone() {
		t.Fatal("a trimming of nothing is a unit, too")
	}
	d.Crash(nil, 9)
	wantStream(t, d, 0, "ab", "synced, the power not gone")

	d.Arm(4)
	do(t, d.Write(0, pageOf(1)))
	if d.Gone() {
		t.Fatal("gone at the fourth of four units")
	}
	d.Sync()
	do(t, d.Append([]byte("c")))
	if !d.Gone() {
		t.Fatal("not gone at the fifth of four units")
	}
	d.Crash(nil, 9)
	wantSectors(t, d, 0, [4]int{1, 1, 1, 1}, "synced, the power not gone")
	wantStream(t, d, 0, "ab", "a byte of no account")
}

// Dv2: armed again it counts anew; with a number below 0 it is armed no more.
func TestArmAgain(t *testing.T) {
	for _, c := range []struct{ first, then, units int }{
		{0, 3, 4}, {5, 1, 2}, {2, 2, 3}, {3, math.MaxInt, -1}, {0, -1, -1}, {2, math.MinInt, -1}, {-1, 0, 1}, {math.MaxInt, 2, 3},
	} {
		d := open(t, 1)
		d.Arm(c.first)
		if c.first > 0 {
			do(t, d.Append([]byte("x")))
		}
		d.Arm(c.then)
		for i := 1; i <= 20; i++ {
			do(t, d.Append([]byte("y")))
			if want := c.units > 0 && i >= c.units; d.Gone() != want {
				t.Fatalf("Arm(%d), Arm(%d), %d units: Gone = %v", c.first, c.then, i, !want)
			}
		}
	}
}

// Dv2: once the power is gone all is seen, and of no account: units, Sync and Arm; a crash takes that away.
func TestOnceGone(t *testing.T) {
	d := open(t, 2)
	do(t, d.Write(0, pageOf(1)))
	do(t, d.Append([]byte("abc")))
	d.Sync()
	do(t, d.Append([]byte("de")))
	d.Arm(2)
	do(t, d.Write(0, pageOf(2))) // two of its sectors count
	for _, n := range []int{-1, 0, 5, math.MaxInt, math.MinInt} {
		d.Arm(n)
		if !d.Gone() {
			t.Fatalf("Arm(%d) gave the power back", n)
		}
	}
	do(t, d.Write(1, pageOf(3)))
	do(t, d.Append([]byte("fgh")))
	d.Sync()
	do(t, d.Trim(7))
	d.Sync()
	want := look{pages: []string{string(pageOf(2)), string(pageOf(3))}, base: 7, stream: "h", sectors: 2, units: 2, gone: true}
	wantLook(t, d, want, "once the power is gone")
	wantErr(t, d.Trim(6), api.ErrArg, "what is seen is trimmed")
	wantErr(t, d.Trim(9), api.ErrArg, "what is seen is at an end")
	d.Crash([]bool{false, true}, 1)
	wantSectors(t, d, 0, [4]int{1, 2, 1, 1}, "of two sectors the second one")
	wantSectors(t, d, 1, [4]int{-1, -1, -1, -1}, "of no account")
	wantStream(t, d, 0, "abcd", "of two bytes the first one")
	wantPending(t, d, 0, 0, "a crash")
	if d.Gone() {
		t.Fatal("gone behind a crash")
	}
	do(t, d.Write(1, pageOf(4)))
	do(t, d.Append(textOf(1000)))
	if d.Gone() {
		t.Fatal("armed behind a crash")
	}
	d.Sync()
	d.Crash(nil, 0)
	wantSectors(t, d, 1, [4]int{4, 4, 4, 4}, "synced behind a crash")
	wantStream(t, d, 0, "abcd"+string(textOf(1000)), "synced behind a crash")
}

// Dv2: a crash takes away that a device is armed, also where its power is not gone.
func TestCrashDisarms(t *testing.T) {
	d := open(t, 1)
	d.Arm(2)
	do(t, d.Append([]byte("a")))
	d.Crash(nil, 1)
	do(t, d.Append([]byte("bcd")))
	do(t, d.Write(0, pageOf(1)))
	if d.Gone() {
		t.Fatal("armed behind a crash")
	}
	wantPending(t, d, 4, 3, "behind a crash")
	d.Arm(0)
	do(t, d.Trim(0))
	if !d.Gone() {
		t.Fatal("not armed anew")
	}
}

// everyPattern is all of them with at most so many yes and no.
func everyPattern(most int) [][]bool {
	l := [][]bool{nil}
	for i := 0; i < len(l); i++ {
		if len(l[i]) < most {
			l = append(l, append(slices.Clone(l[i]), false), append(slices.Clone(l[i]), true))
		}
	}
	return l
}

// Dv2: of the sectors' writes the i-th is kept if the pattern says so at i modulo its length: patterns that are empty, shorter than the writes, as long, and longer.
func TestCrashByPattern(t *testing.T) {
	patterns := everyPattern(10)
	for n := range 14 {
		patterns = append(patterns, append(make([]bool, n), true), append(slices.Repeat([]bool{true}, n), false))
	}
	for _, pattern := range patterns {
		d := open(t, 2)
		do(t, d.Write(1, pageOf(9)))
		do(t, d.Write(1, pageOf(10)))
		do(t, d.Append([]byte("ab")))
		d.Sync() // what was synced has no place in the pattern
		do(t, d.Write(0, pageOf(1)))
		do(t, d.Append([]byte("c"))) // nor have the stream's units
		do(t, d.Write(1, pageOf(2)))
		do(t, d.Trim(1))
		do(t, d.Write(0, pageOf(3)))
		tags := [2][4]int{{-1, -1, -1, -1}, {10, 10, 10, 10}}
		for i := range 12 {
			if len(pattern) > 0 && pattern[i%len(pattern)] {
				tags[i/4%2][i%4] = 1 + i/4
			}
		}
		ahead := slices.Clone(pattern)
		d.Crash(pattern, 0)
		of := fmt.Sprint("the pattern ", ahead)
		wantSectors(t, d, 0, tags[0], of)
		wantSectors(t, d, 1, tags[1], of)
		wantStream(t, d, 0, "ab", of)
		wantPending(t, d, 0, 0, of)
		if !slices.Equal(pattern, ahead) {
			t.Fatalf("%s was changed to %v", of, pattern)
		}
	}
}

// Dv2: of the stream's units the first so many are kept, in order, trimmings among them; the sectors' writes are none of them.
func TestCrashByUnits(t *testing.T) {
	steps := []struct {
		text  string
		place int
	}{
		{"cd", 0}, {"", 1}, {"", 1}, {"efg", 0}, {"", 4}, {"h", 0}, {"", 8}, {"", 8}, {"ijk", 0}, {"", 9},
	}
	// What the stream is behind each number of units.
	type stream struct {
		base int
		text string
	}
	states := []stream{{0, "ab"}}
	all := "ab"
	for _, s := range steps {
		last := states[len(states)-1]
		for _, x := range s.text {
			all += string(x)
			last.text += string(x)
			states = append(states, last)
		}
		if s.text == "" {
			states = append(states, stream{s.place, all[s.place:]})
		}
	}
	counts := []int{math.MinInt, -1 << 40, -2, -1, 1 << 20, math.MaxInt - 1, math.MaxInt}
	for n := range len(states) + 5 {
		counts = append(counts, n)
	}
	for _, n := range counts {
		d := open(t, 1)
		do(t, d.Append([]byte("ab")))
		d.Sync()
		for _, s := range steps {
			do(t, d.Write(0, pageOf(5)))
			if s.text == "" {
				do(t, d.Trim(s.place))
			} else {
				do(t, d.Append([]byte(s.text)))
			}
		}
		of := fmt.Sprint("units ", n)
		last := states[len(states)-1]
		wantStream(t, d, last.base, last.text, of)
		wantPending(t, d, 4*len(steps), len(states)-1, of)
		d.Crash(nil, n)
		want := states[min(max(n, 0), len(states)-1)]
		wantStream(t, d, want.base, want.text, of)
		wantPending(t, d, 0, 0, of)
		wantSectors(t, d, 0, [4]int{-1, -1, -1, -1}, of)
		wantErr(t, d.Trim(want.base+len(want.text)+1), api.ErrArg, of)
		wantErr(t, d.Trim(want.base-1), api.ErrArg, of)
		do(t, d.Append([]byte("z")))
		wantStream(t, d, want.base, want.text+"z", of)
	}
}

// Dv2: a stream that is full, trimmed and full again comes back as it was, or as far as it is kept.
func TestCrashOfFullStream(t *testing.T) {
	one, two := textOf(65536), bytes.Repeat([]byte("abc"), 22000)[:65536]
	for _, n := range []int{-1, 0, 1, 2, 1000, 65535, 65536, 65537, 65538, 65539, 65540, 70000} {
		d := open(t, 1)
		do(t, d.Append(one))
		d.Sync()
		do(t, d.Trim(65536))
		do(t, d.Append(two))
		do(t, d.Trim(65537))
		do(t, d.Append([]byte("x")))
		d.Crash(nil, n)
		of := fmt.Sprint("units ", n)
		switch {
		case n <= 0:
			wantStream(t, d, 0, string(one), of)
		case n <= 65537:
			wantStream(t, d, 65536, string(two[:n-1]), of)
		default:
			wantStream(t, d, 65537, string(two[1:])+"x"[:min(n-65538, 1)], of)
		}
		_, b := d.Stream()
		wantErr(t, d.Append(make([]byte, 65537-len(b))), api.ErrLog, of)
		do(t, d.Append(make([]byte, 65536-len(b))))
	}
}

// Dv2: what a crash keeps is kept, and the next one has nothing to undo.
func TestCrashBehindCrash(t *testing.T) {
	d := open(t, 1)
	do(t, d.Write(0, pageOf(1)))
	do(t, d.Append([]byte("abc")))
	d.Crash([]bool{true, true, false}, 2)
	want := lookAt(t, d)
	wantSectors(t, d, 0, [4]int{1, 1, -1, 1}, "the first crash")
	wantStream(t, d, 0, "ab", "the first crash")
	for _, pattern := range [][]bool{nil, {true}, {false}, {false, true}} {
		for _, n := range []int{-1, 0, 1, 3, 9} {
			d.Crash(pattern, n)
			wantLook(t, d, want, "a crash behind a crash")
		}
	}
	do(t, d.Write(0, pageOf(2)))
	do(t, d.Append([]byte("de")))
	do(t, d.Trim(1))
	d.Crash([]bool{false, false, true}, 1)
	wantSectors(t, d, 0, [4]int{1, 1, 2, 1}, "the pattern begins anew")
	wantStream(t, d, 0, "abd", "the units begin anew")
	do(t, d.Append([]byte("f")))
	d.Crash(nil, 0)
	do(t, d.Append([]byte("g")))
	do(t, d.Trim(2))
	wantStream(t, d, 2, "dg", "what was undone does not come back")
	d.Crash(nil, 5)
	wantStream(t, d, 2, "dg", "kept")
	d.Crash(nil, 0)
	wantStream(t, d, 2, "dg", "kept")
}

// The chapter's example, behind Write, Sync, Write.
func TestExample(t *testing.T) {
	d := open(t, 1)
	do(t, d.Write(0, pageOf(1)))
	d.Sync()
	do(t, d.Write(0, pageOf(2)))
	d.Crash([]bool{true, false}, 0)
	wantSectors(t, d, 0, [4]int{2, 1, 2, 1}, "yes, no")
}

// act does the same thing to a device and to a paper, and tells what.
func act(t *testing.T, r *rand.Rand, d *Device, p *paper) string {
	t.Helper()
	base, b := d.Stream()
	switch r.IntN(16) {
	case 0, 1, 2, 3:
		page, text := r.IntN(p.pages+2)-1, pageOf(r.IntN(256))
		if r.IntN(8) == 0 {
			text = textOf(511 + r.IntN(3))
		}
		wantErr(t, d.Write(page, text), p.write(page, text), "Write")
		return fmt.Sprintf("Write(%d, %d bytes)", page, len(text))
	case 4, 5, 6, 7, 8:
		text := textOf(r.IntN(9))
		if r.IntN(150) == 0 {
			text = textOf(65536 - len(b) + r.IntN(3) - 1)
		}
		wantErr(t, d.Append(text), p.append(text), "Append")
		return fmt.Sprintf("Append(%d bytes)", len(text))
	case 9, 10:
		place := base + r.IntN(len(b)+3) - 1
		wantErr(t, d.Trim(place), p.trim(place), "Trim")
		return fmt.Sprintf("Trim(%d)", place)
	case 11, 12:
		d.Sync()
		p.sync()
		return "Sync()"
	case 13:
		n := r.IntN(40) - 4
		d.Arm(n)
		p.arm(n)
		return fmt.Sprintf("Arm(%d)", n)
	default:
		pattern := make([]bool, r.IntN(12))
		for i := range pattern {
			pattern[i] = r.IntN(2) == 0
		}
		n := r.IntN(30) - 3
		d.Crash(pattern, n)
		p.crash(pattern, n)
		return fmt.Sprintf("Crash(%v, %d)", pattern, n)
	}
}

// Dv1, Dv2: whatever is done, the device tells at each step what the document's words, gone through unit by unit, ask for.
func TestByTheWords(t *testing.T) {
	for seed := range uint64(300) {
		r := rand.New(rand.NewPCG(seed, 5))
		p := &paper{pages: 1 + r.IntN(3)}
		d := open(t, p.pages)
		done := ""
		for range 60 {
			done += " " + act(t, r, d, p)
			if got, want := lookAt(t, d), p.look(); !sameLook(got, want) {
				t.Fatalf("seed %d:%s:\ngot  %v\nwant %v", seed, done, got, want)
			}
		}
	}
}

// Dv3: what was synced is there behind any crash, but where it was written again; each sector is whole, and one of those that were written there.
func TestSectorsAreWhole(t *testing.T) {
	for seed := range uint64(200) {
		r := rand.New(rand.NewPCG(seed, 6))
		d := open(t, 2)
		may := [8][]string{} // what each sector may be behind a crash
		for i := range may {
			may[i] = []string{string(make([]byte, 128))}
		}
		for range 30 {
			for range r.IntN(4) {
				page, text := r.IntN(2), pageOf(r.IntN(256))
				do(t, d.Write(page, text))
				for k := range 4 {
					may[4*page+k] = append(may[4*page+k], string(text[128*k:128*k+128]))
				}
			}
			if r.IntN(3) == 0 {
				d.Arm(r.IntN(10) - 1)
			}
			if r.IntN(3) == 0 && !d.Gone() {
				d.Sync()
				for i := range may {
					may[i] = may[i][len(may[i])-1:]
				}
			}
			if r.IntN(3) > 0 {
				continue
			}
			d.Crash(everyPattern(5)[r.IntN(63)], r.IntN(5))
			for i := range may {
				b, _ := d.Read(i / 4)
				got := string(b[i%4*128 : i%4*128+128])
				if !slices.Contains(may[i], got) {
					t.Fatalf("seed %d: sector %d is none that was written there, or what was synced is lost", seed, i)
				}
				may[i] = []string{got}
			}
		}
	}
}

// Dv3: of the stream what was synced is there behind any crash, but where it was trimmed again; what follows is the beginning of what was appended.
func TestStreamIsOneThatWas(t *testing.T) {
	for seed := range uint64(200) {
		r := rand.New(rand.NewPCG(seed, 7))
		d := open(t, 1)
		written := "" // all bytes from place 0 on that may be
		low, end := 0, 0
		for range 40 {
			base, b := d.Stream()
			switch r.IntN(7) {
			case 0, 1, 2:
				text := textOf(20)[r.IntN(10):]
				do(t, d.Append(text))
				written = written[:base+len(b)] + string(text)
			case 3:
				do(t, d.Trim(base+r.IntN(len(b)+1)))
			case 4:
				d.Sync()
				if !d.Gone() {
					low, b = d.Stream()
					end = low + len(b)
				}
			case 5:
				d.Arm(r.IntN(60) - 1)
			default:
				highest := base
				d.Crash(nil, r.IntN(40))
				base, b = d.Stream()
				if base < low || base > highest || base+len(b) < end || string(b) != written[base:base+len(b)] {
					t.Fatalf("seed %d: the stream %d %q is none that was", seed, base, b)
				}
				low, end = base, base+len(b)
			}
		}
	}
}

// R1, and the chapter's bracket: a Device that New did not give has no pages, and nothing can be done to it.
func TestNobodysDevice(t *testing.T) {
	for _, d := range []*Device{nil, {}, new(Device)} {
		for range 2 { // what was called ahead turns nothing
			if d.Pages() != 0 || d.Gone() {
				t.Fatalf("Pages = %d, Gone = %v", d.Pages(), d.Gone())
			}
			for _, page := range []int{math.MinInt, -1, 0, 1, math.MaxInt} {
				if b, e := d.Read(page); len(b) != 0 || e != api.ErrNone {
					t.Fatalf("Read(%d) = %v, %d", page, b, e)
				}
				wantErr(t, d.Write(page, pageOf(1)), api.ErrNone, "Write")
				wantErr(t, d.Write(page, nil), api.ErrNone, "Write")
			}
			wantErr(t, d.Append(nil), api.ErrArg, "Append")
			wantErr(t, d.Append([]byte("a")), api.ErrArg, "Append")
			wantErr(t, d.Append(make([]byte, 65537)), api.ErrArg, "Append")
			for _, place := range []int{math.MinInt, -1, 0, 1, math.MaxInt} {
				wantErr(t, d.Trim(place), api.ErrArg, "Trim")
			}
			wantStream(t, d, 0, "", "nobody's")
			wantPending(t, d, 0, 0, "nobody's")
			d.Sync()
			d.Arm(0)
			d.Arm(-1)
			d.Arm(3)
			d.Crash(nil, 0)
			d.Crash([]bool{true}, math.MaxInt)
			d.Crash([]bool{false, true}, math.MinInt)
			d.Arm(0)
		}
	}
}

// R3: what is handed in is not changed, nor what lies behind it, and not kept.
func TestHandedIn(t *testing.T) {
	for _, how := range []string{"seen", "crash", "sync", "gone"} {
		d := open(t, 2)
		room := append(pageOf(1), pageOf(2)...)
		page := room[:512]
		bytesIn := []byte("abcdefgh")
		text := bytesIn[:4]
		pattern := []bool{true, false, true}
		if how == "gone" {
			d.Arm(0)
		}
		do(t, d.Write(1, page))
		do(t, d.Append(text))
		do(t, d.Append(text[1:3]))
		if !bytes.Equal(room, append(pageOf(1), pageOf(2)...)) || string(bytesIn) != "abcdefgh" {
			t.Fatal("what was handed in is changed")
		}
		clear(room)
		clear(bytesIn)
		switch how {
		case "crash":
			d.Crash([]bool{true}, 9)
		case "sync":
			d.Sync()
			d.Crash(nil, 0)
		}
		wantSectors(t, d, 1, [4]int{1, 1, 1, 1}, how)
		wantStream(t, d, 0, "abcdbc", how)
		do(t, d.Append(textOf(100)))
		do(t, d.Write(0, pageOf(3)))
		d.Crash(pattern[:2], 3)
		if !slices.Equal(pattern, []bool{true, false, true}) {
			t.Fatalf("the pattern is changed: %v", pattern)
		}
		if !bytes.Equal(room, make([]byte, 1024)) || !bytes.Equal(bytesIn, make([]byte, 8)) {
			t.Fatal("what was handed in was kept, and is changed later")
		}
	}
}

// spoil writes over an answer, and over the room behind its end.
func spoil(b []byte) {
	b = b[:cap(b)]
	for i := range b {
		b[i] = 0xEE
	}
}

// R3: what is told shares no memory with the device, nor with what was told ahead, nor is it changed later.
func TestTold(t *testing.T) {
	d := open(t, 2)
	do(t, d.Write(0, pageOf(1)))
	do(t, d.Write(1, pageOf(2)))
	do(t, d.Append([]byte("abcdef")))
	d.Sync()
	do(t, d.Trim(2))
	do(t, d.Append([]byte("gh")))
	want := lookAt(t, d)
	for range 2 {
		one, _ := d.Read(0)
		two, _ := d.Read(0)
		_, s := d.Stream()
		_, again := d.Stream()
		spoil(one)
		spoil(s)
		if !bytes.Equal(two, pageOf(1)) || string(again) != "cdefgh" {
			t.Fatal("two answers share memory")
		}
		wantLook(t, d, want, "an answer was written over")
	}
	page, _ := d.Read(1)
	_, s := d.Stream()
	do(t, d.Write(1, pageOf(3)))
	do(t, d.Append([]byte("ij")))
	d.Sync()
	d.Crash(nil, 0)
	do(t, d.Trim(10))
	do(t, d.Append([]byte("klmnopqr")))
	if !bytes.Equal(page, pageOf(2)) || string(s) != "cdefgh" {
		t.Fatal("an answer is changed later")
	}
	for _, crash := range []bool{false, true} {
		if crash {
			d.Crash([]bool{true}, 99)
		}
		want = lookAt(t, d)
		b, _ := d.Read(1)
		spoil(b)
		_, b = d.Stream()
		spoil(b)
		wantLook(t, d, want, "an answer was written over")
		d.Crash([]bool{true}, 99)
		want.sectors, want.units = 0, 0
		wantLook(t, d, want, "an answer was written over, ahead of a crash")
	}
}

// R4: two devices have nothing in common.
func TestTwoDevices(t *testing.T) {
	a, b := open(t, 1), open(t, 1)
	do(t, a.Write(0, pageOf(1)))
	do(t, a.Append([]byte("a")))
	a.Arm(0)
	do(t, a.Append([]byte("b")))
	wantLook(t, b, look{pages: []string{string(make([]byte, 512))}}, "the other one")
	do(t, b.Write(0, pageOf(2)))
	b.Sync()
	b.Crash(nil, 0)
	wantLook(t, a, look{pages: []string{string(pageOf(1))}, stream: "ab", sectors: 4, units: 1, gone: true}, "the first one")
}
