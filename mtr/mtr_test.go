package mtr

import (
	"bytes"
	"fmt"
	"math"
	"math/rand/v2"
	"slices"
	"testing"

	"humus/api"
	"humus/device"
	"humus/pool"
	"humus/redo"
	"humus/tally"
)

// size is how many bytes the record of a group of so many images has, as chapter 6 says it: two, the sum's four, one, and of each image one and its 512.
func size(images int) int { return 2 + 4 + 1 + images*(1+512) }

// disk is a device of so many pages, each with a page of its own tag, from 100 on, that is synced.
func disk(t *testing.T, pages int) *device.Device {
	t.Helper()
	d, e := device.New(pages)
	do(t, e)
	for i := range pages {
		do(t, d.Write(i, pageOf(100+i)))
	}
	d.Sync()
	return d
}

// open is such a device, opened.
func open(t *testing.T, pages, frames int) (*device.Device, *Mtr) {
	t.Helper()
	d := disk(t, pages)
	return d, openOf(t, d, frames)
}

func openOf(t *testing.T, d *device.Device, frames int) *Mtr {
	t.Helper()
	m, e := Open(d, frames)
	if m == nil || e != api.OK {
		t.Fatalf("Open(%d pages, %d) = %v, %d", d.Pages(), frames, m, e)
	}
	return m
}

// pageOf is 512 bytes, of which each sector tells its tag, from 0 to 65535, and which sector it is.
func pageOf(tag int) []byte {
	b := make([]byte, 512)
	for i := range b {
		b[i] = byte(tag + 101*i + 17*(i/128))
	}
	for i := range 4 {
		b[i*128] = byte(tag >> 8)
	}
	return b
}

// groupOf is a group of pages that all have one tag.
func groupOf(tag int, pages ...int) []api.Image {
	var g []api.Image
	for _, page := range pages {
		g = append(g, api.Image{Page: page, B: pageOf(tag)})
	}
	return g
}

// recordOf is a group's record by the words of chapter 6.
func recordOf(g []api.Image) []byte {
	text := []byte{byte(len(g))}
	for _, i := range g {
		text = append(append(text, byte(i.Page)), i.B...)
	}
	sealed := tally.Seal(text)
	return append([]byte{byte(len(sealed) / 256), byte(len(sealed) % 256)}, sealed...)
}

// do is a call that must go well.
func do(t *testing.T, e api.Errno) {
	t.Helper()
	wantErr(t, e, api.OK, "a call that must go well")
}

func wantErr(t *testing.T, got, want api.Errno, of string) {
	t.Helper()
	if got != want {
		t.Fatalf("%s: error %d, want %d", of, got, want)
	}
}

// wantRead holds what is told of the first pages against those of tags.
func wantRead(t *testing.T, m *Mtr, of string, tags ...int) {
	t.Helper()
	for page, tag := range tags {
		b, e := m.Read(page)
		if e != api.OK || !bytes.Equal(b, pageOf(tag)) {
			t.Fatalf("%s: Read(%d): %d bytes, not those of tag %d, error %d", of, page, len(b), tag, e)
		}
	}
}

// wantOnDevice holds what the device has as its first pages against those of tags.
func wantOnDevice(t *testing.T, d *device.Device, of string, tags ...int) {
	t.Helper()
	for page, tag := range tags {
		b, e := d.Read(page)
		if e != api.OK || !bytes.Equal(b, pageOf(tag)) {
			t.Fatalf("%s: the device's page %d: %d bytes, not those of tag %d, error %d", of, page, len(b), tag, e)
		}
	}
}

func wantPending(t *testing.T, d *device.Device, sectors, units int, of string) {
	t.Helper()
	if s, u := d.Pending(); s != sectors || u != units {
		t.Fatalf("%s: Pending = %d, %d, want %d, %d", of, s, u, sectors, units)
	}
}

// wantStream holds the stream against where it begins, and the records that it has.
func wantStream(t *testing.T, d *device.Device, base int, of string, groups ...[]api.Image) {
	t.Helper()
	var want []byte
	for _, g := range groups {
		want = append(want, recordOf(g)...)
	}
	if at, b := d.Stream(); at != base || !bytes.Equal(b, want) {
		t.Fatalf("%s: the stream begins at %d, and has %d bytes; want %d, %d", of, at, len(b), base, len(want))
	}
}

func wantLeft(t *testing.T, m *Mtr, left int, of string) {
	t.Helper()
	if got := m.Left(); got != left {
		t.Fatalf("%s: Left = %d, want %d", of, got, left)
	}
}

// add lets so many bytes that begin no record follow in the stream.
func add(t *testing.T, d *device.Device, n int) {
	t.Helper()
	do(t, d.Append(make([]byte, n)))
}

// look is all that a device tells.
func look(d *device.Device) string {
	base, stream := d.Stream()
	sectors, units := d.Pending()
	s := fmt.Sprint(d.Pages(), base, sectors, units, d.Gone()) + string(stream)
	for i := range d.Pages() {
		b, e := d.Read(i)
		s += fmt.Sprint(e) + string(b)
	}
	return s
}

// Mt1: Open of what can't be: ErrArg, and the device is as it was, its stream too.
func TestOpenOfNone(t *testing.T) {
	d := disk(t, 3)
	do(t, d.Append(recordOf(groupOf(1, 0, 2))))
	add(t, d, 5)
	was := look(d)
	for _, frames := range []int{0, -1, -2, -64, 65, 66, 128, 1 << 32, 1<<32 + 1, math.MinInt, math.MaxInt} {
		for _, o := range []*device.Device{d, nil, {}, new(device.Device)} {
			if m, e := Open(o, frames); m != nil || e != api.ErrArg {
				t.Errorf("Open(%d pages, %d) = %v, error %d", o.Pages(), frames, m, e)
			}
		}
	}
	for _, frames := range []int{1, 2, 3, 63, 64} {
		for _, o := range []*device.Device{nil, {}, new(device.Device)} {
			if m, e := Open(o, frames); m != nil || e != api.ErrArg {
				t.Errorf("Open(no device, %d) = %v, error %d", frames, m, e)
			}
		}
	}
	for _, n := range []int{-1, 0, 65} {
		o, _ := device.New(n)
		if m, e := Open(o, 1); m != nil || e != api.ErrArg {
			t.Errorf("Open(what device.New(%d) gave, 1) = %v, error %d", n, m, e)
		}
	}
	if look(d) != was {
		t.Error("the device has changed")
	}
}

// Mt1: Open with 1 to 64 frames of devices of one page and of many; the pages are the device's; Pages tells how many.
func TestOpen(t *testing.T) {
	for n := 1; n <= 64; n++ {
		var tags []int
		for page := range n {
			tags = append(tags, 100+page)
		}
		for _, frames := range []int{1, 2, n, 63, 64} {
			d, m := open(t, n, frames)
			if m.Pages() != n {
				t.Fatalf("Pages = %d, want %d", m.Pages(), n)
			}
			wantRead(t, m, "opened", tags...)
			wantOnDevice(t, d, "opened", tags...)
			wantStream(t, d, 0, "opened")
			wantPending(t, d, 0, 0, "opened")
			wantLeft(t, m, 65536, "opened")
			if m.Pages() != n {
				t.Fatalf("Pages = %d again, want %d", m.Pages(), n)
			}
		}
	}
}

// Mt1: Open of a device that is new: noughts.
func TestOpenOfNew(t *testing.T) {
	d, e := device.New(2)
	do(t, e)
	m := openOf(t, d, 1)
	for page := range 2 {
		if b, e := m.Read(page); e != api.OK || !bytes.Equal(b, make([]byte, 512)) {
			t.Errorf("Read(%d): %d bytes, error %d", page, len(b), e)
		}
	}
	wantLeft(t, m, 65536, "new")
	wantPending(t, d, 0, 0, "new")
}

// Mt1: groups that are in the stream and not on the pages are there behind Open: in memory, on the device and synced; the stream begins at its end. With few frames and with many, the stream trimmed ahead of it or not, synced or not.
func TestOpenWithGroups(t *testing.T) {
	one, two, three := groupOf(1, 0, 2), groupOf(2, 1), groupOf(3, 0, 1, 4)
	whole := slices.Concat(recordOf(one), recordOf(two), recordOf(three))
	for frames := 1; frames <= 6; frames++ {
		for _, ahead := range []int{0, 1, 519, 520, 65536 - len(whole)} {
			for _, sync := range []bool{true, false} {
				of := fmt.Sprintf("%d frames, %d bytes trimmed, synced %v", frames, ahead, sync)
				d := disk(t, 5)
				add(t, d, ahead)
				do(t, d.Append(whole))
				do(t, d.Trim(ahead))
				if sync {
					d.Sync()
				}
				m := openOf(t, d, frames)
				wantStream(t, d, ahead+len(whole), of)
				wantPending(t, d, 0, 0, of)
				wantOnDevice(t, d, of, 3, 3, 1, 103, 3)
				wantLeft(t, m, 65536, of)
				wantRead(t, m, of, 3, 3, 1, 103, 3)
				d.Crash(nil, 0)
				wantStream(t, d, ahead+len(whole), of+", crashed")
				wantOnDevice(t, d, of+", crashed", 3, 3, 1, 103, 3)
			}
		}
	}
}

// Mt1: a stream of all the records that there is room for is read to its end.
func TestOpenWithManyGroups(t *testing.T) {
	d := disk(t, 7)
	want := []int{100, 101, 102, 103, 104, 105, 106}
	n := 0
	for d.Append(recordOf(groupOf(n, n%7))) == api.OK {
		want[n%7] = n
		n++
	}
	if n != 126 {
		t.Fatalf("%d records of one image", n)
	}
	m := openOf(t, d, 3)
	wantRead(t, m, "126 groups", want...)
	wantStream(t, d, 126*520, "126 groups")
}

// Mt1: what is torn behind the records, cut at any place, is forgotten, with its bytes: what is applied behind it is read again.
func TestOpenOfTorn(t *testing.T) {
	one, two, three := groupOf(1, 0), groupOf(2, 1, 2), groupOf(3, 0)
	for _, g := range [][]api.Image{two, three} {
		record := recordOf(g)
		for cut := 1; cut < len(record); cut++ {
			d := disk(t, 3)
			do(t, d.Append(recordOf(one)))
			do(t, d.Append(record[:cut]))
			m := openOf(t, d, 2)
			of := fmt.Sprintf("cut at %d", cut)
			wantStream(t, d, 520+cut, of)
			wantPending(t, d, 0, 0, of)
			wantOnDevice(t, d, of, 1, 101, 102)
			wantRead(t, m, of, 1, 101, 102)
			do(t, m.Apply(groupOf(9, 2)))
			wantStream(t, d, 520+cut, of, groupOf(9, 2))
			m.Sync()
			d.Crash(nil, 0)
			wantRead(t, openOf(t, d, 2), of+", crashed", 1, 101, 9)
			wantStream(t, d, 520+cut+520, of+", crashed")
		}
	}
}

// Mt1: bytes that are no record end the row: whole records behind them are not put, and all is forgotten.
func TestOpenOfNoRecord(t *testing.T) {
	good := recordOf(groupOf(1, 0))
	turned := slices.Clone(good)
	turned[300] ^= 4
	seven := []api.Image{}
	for page := range 7 {
		seven = append(seven, api.Image{Page: page, B: pageOf(5)})
	}
	for name, b := range map[string][]byte{
		"one nought":         {0},
		"noughts":            make([]byte, 700),
		"a text":             []byte("this is no record at all, of no group"),
		"all ones":           bytes.Repeat([]byte{255}, 65000),
		"a bit turned":       turned,
		"no images":          recordOf(nil),
		"seven images":       recordOf(seven),
		"page 64":            recordOf(groupOf(5, 64)),
		"page 255":           recordOf(groupOf(5, 0, 255)),
		"pages that fall":    recordOf(groupOf(5, 1, 0)),
		"a page that is two": recordOf(groupOf(5, 1, 1)),
		"511 bytes":          recordOf([]api.Image{{Page: 0, B: make([]byte, 511)}}),
	} {
		for _, ahead := range []int{0, 1} {
			d := disk(t, 2)
			want := []int{100, 101}
			if ahead == 1 {
				do(t, d.Append(recordOf(groupOf(7, 1))))
				want[1] = 7
			}
			do(t, d.Append(b))
			if len(b) < 60000 {
				do(t, d.Append(good))
				do(t, d.Append(good))
			}
			_, stream := d.Stream()
			if n := len(stream); ahead == 1 && name == "all ones" && n != 65520 {
				t.Fatalf("%d bytes", n)
			}
			m := openOf(t, d, 2)
			wantStream(t, d, len(stream), name)
			wantPending(t, d, 0, 0, name)
			wantOnDevice(t, d, name, want...)
			wantRead(t, m, name, want...)
			wantLeft(t, m, 65536, name)
		}
	}
}

// Mt1: a byte ahead of a record makes it none, whichever it is: no record is looked for but where the one ahead of it ends.
func TestOpenOfRecordOneBehind(t *testing.T) {
	good := recordOf(groupOf(1, 0))
	for x := range 256 {
		d := disk(t, 2)
		do(t, d.Append(recordOf(groupOf(7, 1))))
		do(t, d.Append([]byte{byte(x)}))
		for range 100 {
			do(t, d.Append(good))
		}
		m := openOf(t, d, 2)
		wantStream(t, d, 520+1+52000, "a byte ahead")
		wantRead(t, m, "a byte ahead", 100, 7)
	}
}

// Mt1: of groups in the stream with pages that the device does not have, the others are put, and those behind them too, each one's place counted.
func TestOpenOfStrangePages(t *testing.T) {
	for frames := 1; frames <= 3; frames++ {
		d := disk(t, 2)
		strange := [][]api.Image{groupOf(1, 0, 2), groupOf(2, 2, 63), groupOf(3, 1, 2, 3, 4, 5, 6), groupOf(4, 5), groupOf(5, 0)}
		n := 0
		for _, g := range strange {
			do(t, d.Append(recordOf(g)))
			n += size(len(g))
		}
		m := openOf(t, d, frames)
		wantStream(t, d, n, "strange pages")
		wantPending(t, d, 0, 0, "strange pages")
		wantOnDevice(t, d, "strange pages", 5, 3)
		wantRead(t, m, "strange pages", 5, 3)
		if m.Pages() != 2 {
			t.Errorf("Pages = %d", m.Pages())
		}
		if _, e := m.Read(2); e != api.ErrNone {
			t.Errorf("Read(2): error %d", e)
		}
	}
}

// Mt1: the check point of Open, unit by unit: the pages are written rising, and synced ahead of the trimming, and that is synced too.
func TestOpenUnitByUnit(t *testing.T) {
	for n := range 15 {
		d := disk(t, 3)
		do(t, d.Append(recordOf(groupOf(1, 1, 2))))
		do(t, d.Append(recordOf(groupOf(2, 0))))
		d.Sync()
		d.Arm(n)
		m := openOf(t, d, 3)
		if d.Gone() != (n < 13) {
			t.Fatalf("armed with %d: Gone = %v", n, d.Gone())
		}
		wantRead(t, m, "seen", 2, 1, 1)
		wantStream(t, d, size(2)+520, "seen")
		if n < 12 {
			wantPending(t, d, n, 0, "what is of account")
		} else {
			wantPending(t, d, 0, 0, "all is synced")
		}
		d.Crash([]bool{true}, 100)
		for page, tag := range []int{2, 1, 1} {
			want := pageOf(100 + page)
			copy(want, pageOf(tag)[:128*min(max(n-4*page, 0), 4)])
			if b, _ := d.Read(page); !bytes.Equal(b, want) {
				t.Fatalf("armed with %d: page %d is another one", n, page)
			}
		}
		if n < 13 {
			wantStream(t, d, 0, "not trimmed", groupOf(1, 1, 2), groupOf(2, 0))
		} else {
			wantStream(t, d, size(2)+520, "trimmed")
		}
		wantRead(t, openOf(t, d, 1), "opened anew", 2, 1, 1)
	}
	d := disk(t, 3)
	do(t, d.Append(recordOf(groupOf(1, 1, 2))))
	d.Sync()
	d.Arm(8) // just the pages: at the trimming the power is gone
	openOf(t, d, 3)
	d.Crash(nil, 0)
	wantOnDevice(t, d, "synced ahead of the trimming", 100, 1, 1)
	wantStream(t, d, 0, "not trimmed", groupOf(1, 1, 2))
}

// Mt1, Mt2: a stream that nobody synced is synced ahead of the first page that is written while it is opened: also where it was trimmed, so that places are greater than what there is of it.
func TestOpenOfUnsynced(t *testing.T) {
	for _, ahead := range []int{0, 5, 3000, 60000} {
		for frames := 1; frames <= 4; frames++ {
			for n := range 12 {
				d := disk(t, 3)
				add(t, d, ahead)
				do(t, d.Trim(ahead))
				d.Sync()
				do(t, d.Append(recordOf(groupOf(1, 0, 1))))
				do(t, d.Append(recordOf(groupOf(2, 2))))
				d.Arm(n)
				openOf(t, d, frames)
				d.Crash([]bool{true, false}, 0)
				wantStream(t, d, ahead, "ahead of the pages", groupOf(1, 0, 1), groupOf(2, 2))
				wantRead(t, openOf(t, d, frames), "opened anew", 1, 1, 2)
			}
		}
	}
}

// Mt1: while it is opened the groups are put one by one: a page of two groups is as the latter has it, and with one frame each one leaves for the next.
func TestOpenOneByOne(t *testing.T) {
	d := disk(t, 2)
	for _, g := range [][]api.Image{groupOf(1, 0, 1), groupOf(2, 0), groupOf(3, 0, 1)} {
		do(t, d.Append(recordOf(g)))
	}
	d.Sync()
	d.Arm(14) // 0, 1 (for 0 again), 0 (for 1): twelve sectors; then page 1, at the check point
	openOf(t, d, 1)
	wantPending(t, d, 14, 0, "one frame")
	d.Crash([]bool{true}, 0)
	want := pageOf(1)
	copy(want, pageOf(3)[:256])
	if b, _ := d.Read(1); !bytes.Equal(b, want) {
		t.Error("page 1 is another one")
	}
	wantOnDevice(t, d, "one frame", 3)
}

// Mt1: Read and Evict of pages that are none, of the first one and of the last, on devices of one page and of many.
func TestReadAndEvict(t *testing.T) {
	for _, n := range []int{1, 2, 3, 63, 64} {
		d, m := open(t, n, 2)
		was := look(d)
		for _, page := range []int{-1, -2, -64, n, n + 1, 64, 65, 128, 1 << 32, math.MinInt, math.MaxInt} {
			if b, e := m.Read(page); len(b) != 0 || e != api.ErrNone {
				t.Errorf("%d pages: Read(%d): %d bytes, error %d", n, page, len(b), e)
			}
			wantErr(t, m.Evict(page), api.ErrNone, fmt.Sprintf("%d pages: Evict(%d)", n, page))
		}
		for _, page := range []int{0, n - 1} {
			wantErr(t, m.Evict(page), api.ErrNone, "Evict of a page that is not in")
			if b, e := m.Read(page); e != api.OK || !bytes.Equal(b, pageOf(100+page)) {
				t.Errorf("%d pages: Read(%d): %d bytes, error %d", n, page, len(b), e)
			}
			wantErr(t, m.Evict(page), api.OK, "Evict of a page that is in")
			wantErr(t, m.Evict(page), api.ErrNone, "Evict of a page that was let out")
		}
		if look(d) != was {
			t.Errorf("%d pages: the device has changed", n)
		}
	}
}

// Mt1: a page that was turned is written when it is let out, behind the stream; a clean one is not; let out it is read from the device.
func TestEvict(t *testing.T) {
	d, m := open(t, 3, 3)
	do(t, m.Apply(groupOf(1, 0, 2)))
	wantPending(t, d, 0, size(2), "applied")
	wantOnDevice(t, d, "applied", 100, 101, 102)
	do(t, m.Evict(2))
	wantPending(t, d, 4, 0, "the stream first")
	wantOnDevice(t, d, "let out", 100, 101, 1)
	wantErr(t, m.Evict(2), api.ErrNone, "again")
	wantErr(t, m.Evict(1), api.ErrNone, "not in")
	do(t, m.Evict(0))
	wantPending(t, d, 8, 0, "synced already")
	wantOnDevice(t, d, "both", 1, 101, 1)
	wantRead(t, m, "let out", 1, 101, 1)
	do(t, m.Evict(1))
	wantPending(t, d, 8, 0, "a clean one")
	wantStream(t, d, 0, "the record is there still", groupOf(1, 0, 2))
	do(t, d.Write(1, pageOf(7)))
	wantRead(t, m, "in anew", 1, 7, 1)
}

// Mt1: which frames there are is layer 12's: a page leaves for another one that is read, and is written then.
func TestFrames(t *testing.T) {
	for frames := 1; frames <= 8; frames++ {
		d, m := open(t, 9, frames)
		for page := range 8 {
			do(t, m.Apply(groupOf(page, page)))
			s, _ := d.Pending()
			if want := 4 * max(page+1-frames, 0); (s > 0) != (want > 0) {
				t.Fatalf("%d frames, %d pages: %d sectors, want %d", frames, page+1, s, want)
			}
		}
		_, e := m.Read(8)
		do(t, e)
		in := 0
		for page := range 9 {
			if m.Evict(page) == api.OK {
				in++
			}
		}
		if in != frames {
			t.Errorf("%d frames: %d pages are in", frames, in)
		}
		wantOnDevice(t, d, "all let out", 0, 1, 2, 3, 4, 5, 6, 7, 108)
	}
}

// Mt1: Apply of groups of one to six pages, at the first and the last one; each record is in the stream, as chapter 6 has it, one behind the other.
func TestApply(t *testing.T) {
	d, m := open(t, 64, 64)
	var groups [][]api.Image
	left, tag := 65536, 300
	for _, pages := range [][]int{{0}, {63}, {0, 63}, {1, 2, 3}, {0, 1, 62, 63}, {5, 6, 7, 8, 9}, {0, 1, 2, 3, 4, 5}, {58, 59, 60, 61, 62, 63}} {
		tag++
		g := groupOf(tag, pages...)
		do(t, m.Apply(g))
		groups = append(groups, g)
		left -= size(len(g))
		wantLeft(t, m, left, "applied")
		wantStream(t, d, 0, "applied", groups...)
		wantPending(t, d, 0, 65536-left, "applied")
		for _, page := range pages {
			if b, e := m.Read(page); e != api.OK || !bytes.Equal(b, pageOf(tag)) {
				t.Fatalf("%v: Read(%d): error %d", pages, page, e)
			}
			wantOnDevicePage(t, d, page, 100+page)
		}
	}
	_, stream := d.Stream()
	if got, n := redo.Row(stream); len(got) != 8 || n != len(stream) {
		t.Errorf("layer 6 reads %d groups, %d bytes of %d", len(got), n, len(stream))
	}
}

func wantOnDevicePage(t *testing.T, d *device.Device, page, tag int) {
	t.Helper()
	if b, _ := d.Read(page); !bytes.Equal(b, pageOf(tag)) {
		t.Fatalf("the device's page %d is not that of tag %d", page, tag)
	}
}

// bad are images that are no group of any device, each wrong in one part.
func bad() map[string][]api.Image {
	long := func(n int) []byte { return append(pageOf(9), pageOf(9)...)[:n] }
	return map[string][]api.Image{
		"nil":                        nil,
		"none":                       {},
		"none, with room":            groupOf(9, 0, 1)[:0],
		"seven":                      groupOf(9, 0, 1, 2, 3, 4, 5, 6),
		"eight":                      groupOf(9, 0, 1, 2, 3, 4, 5, 6, 7),
		"falling":                    groupOf(9, 1, 0),
		"falling behind":             groupOf(9, 0, 2, 1),
		"falling ahead":              groupOf(9, 1, 0, 2),
		"twice":                      groupOf(9, 1, 1),
		"twice, the last one":        groupOf(9, 0, 2, 2),
		"511 bytes":                  {{Page: 0, B: long(511)}},
		"513 bytes":                  {{Page: 0, B: long(513)}},
		"1024 bytes":                 {{Page: 0, B: long(1024)}},
		"no bytes":                   {{Page: 0, B: nil}},
		"no bytes, with room":        {{Page: 0, B: long(0)}},
		"511 bytes, behind":          {{Page: 0, B: pageOf(9)}, {Page: 1, B: long(511)}},
		"513 bytes, ahead":           {{Page: 0, B: long(513)}, {Page: 1, B: pageOf(9)}},
		"below 0":                    groupOf(9, -1),
		"below 0, others behind it":  groupOf(9, -1, 0, 1),
		"far below 0":                groupOf(9, math.MinInt),
		"64":                         groupOf(9, 64),
		"64 behind others":           groupOf(9, 0, 64),
		"256":                        groupOf(9, 256),
		"2^32":                       groupOf(9, 1<<32),
		"far above":                  groupOf(9, 0, math.MaxInt),
		"a page of others, too long": {{Page: 40, B: long(513)}},
		"pages of others, falling":   groupOf(9, 41, 40),
		"pages of others, seven":     groupOf(9, 40, 41, 42, 43, 44, 45, 46),
	}
}

// strange are groups with pages that a device of so many does not have.
func strange(pages int) map[string][]api.Image {
	return map[string][]api.Image{
		"one more":              groupOf(9, pages),
		"one more, behind":      groupOf(9, 0, pages),
		"the last one that is":  groupOf(9, pages-1, pages),
		"two more":              groupOf(9, pages+1),
		"63":                    groupOf(9, 0, 63),
		"six, of which five":    groupOf(9, 0, pages, pages+1, pages+2, pages+3, pages+4),
		"63 alone":              groupOf(9, 63),
		"all that is, and more": groupOf(9, 0, 1, pages),
	}
}

// state is all that can be told of a Mtr and its device.
func state(d *device.Device, m *Mtr) string {
	return fmt.Sprint(m.Pages(), m.Left(), m.pool.In(), m.pool.Dirty()) + look(d)
}

// Mt1, R2: Apply's errors, in their order: no group, ahead of pages that are none, ahead of a stream that has no room; beside an error nothing has changed.
func TestApplyRefused(t *testing.T) {
	for _, full := range []int{0, 65536 - 520 - 519, 65536 - 520 - 1, 65536 - 520} {
		for frames := 1; frames <= 3; frames++ {
			d, m := open(t, 3, frames)
			do(t, m.Apply(groupOf(1, 1)))
			add(t, d, full)
			was := state(d, m)
			for name, g := range bad() {
				wantErr(t, m.Apply(g), api.ErrArg, fmt.Sprintf("%d bytes in the stream: %s", full, name))
				if state(d, m) != was {
					t.Fatalf("%d bytes in the stream: %s: something has changed", full, name)
				}
			}
			for name, g := range strange(3) {
				wantErr(t, m.Apply(g), api.ErrNone, fmt.Sprintf("%d bytes in the stream: %s", full, name))
				if state(d, m) != was {
					t.Fatalf("%d bytes in the stream: %s: something has changed", full, name)
				}
			}
			if full > 0 {
				for _, g := range [][]api.Image{groupOf(9, 0), groupOf(9, 1), groupOf(9, 0, 1), groupOf(9, 0, 1, 2)} {
					wantErr(t, m.Apply(g), api.ErrLog, fmt.Sprintf("%d bytes in the stream", full))
					if state(d, m) != was {
						t.Fatalf("%d bytes in the stream, ErrLog: something has changed", full)
					}
				}
			}
			wantRead(t, m, "refused", 100, 1, 102)
		}
	}
}

// Mt1: pages that the device does not have, on devices of all numbers of pages.
func TestApplyOfLastPage(t *testing.T) {
	for n := 1; n <= 64; n++ {
		_, m := open(t, n, 2)
		do(t, m.Apply(groupOf(1, n-1)))
		if b, e := m.Read(n - 1); e != api.OK || !bytes.Equal(b, pageOf(1)) {
			t.Fatalf("%d pages: the last one: error %d", n, e)
		}
		want := api.ErrNone
		if n == 64 {
			want = api.ErrArg
		}
		wantErr(t, m.Apply(groupOf(2, n)), want, fmt.Sprintf("%d pages, one more", n))
		wantErr(t, m.Apply(groupOf(2, n-1, n)), want, fmt.Sprintf("%d pages, and one more", n))
	}
}

// Mt1: Apply with just the room that its record needs, with less and with more; where there is none a check point makes some.
func TestApplyOfRoom(t *testing.T) {
	for images := 1; images <= 6; images++ {
		pages := []int{0, 1, 2, 3, 4, 5}[:images]
		for _, over := range []int{-size(images), -100, -2, -1, 0, 1, 2, 100, 520} {
			d, m := open(t, 6, 2)
			add(t, d, 65536-size(images)-over)
			of := fmt.Sprintf("%d images, %d over", images, over)
			wantLeft(t, m, size(images)+over, of)
			was := state(d, m)
			if over >= 0 {
				do(t, m.Apply(groupOf(1, pages...)))
				wantLeft(t, m, over, of)
				for _, page := range pages {
					if b, _ := m.Read(page); !bytes.Equal(b, pageOf(1)) {
						t.Fatalf("%s: page %d is another one", of, page)
					}
				}
				continue
			}
			wantErr(t, m.Apply(groupOf(1, pages...)), api.ErrLog, of)
			if state(d, m) != was {
				t.Fatalf("%s: something has changed", of)
			}
			m.Sync()
			wantErr(t, m.Apply(groupOf(1, pages...)), api.ErrLog, of+", synced")
			m.Checkpoint()
			do(t, m.Apply(groupOf(1, pages...)))
			wantLeft(t, m, 65536-size(images), of)
		}
	}
}

// Mt1: Left of a new one, behind Apply, Sync, Evict and Checkpoint, till there is no room, and round again.
func TestLeft(t *testing.T) {
	d, m := open(t, 4, 2)
	for round := range 3 {
		for i := range 126 {
			wantLeft(t, m, 65536-520*i, "applied")
			do(t, m.Apply(groupOf(i, i%4)))
			switch i % 5 {
			case 0:
				m.Sync()
			case 1:
				m.Evict(i % 4)
			case 2:
				m.Read((i + 1) % 4)
			}
			wantLeft(t, m, 65536-520*(i+1), "behind it")
		}
		wantLeft(t, m, 16, "full")
		wantErr(t, m.Apply(groupOf(1, 0)), api.ErrLog, "full")
		wantLeft(t, m, 16, "full")
		m.Checkpoint()
		wantLeft(t, m, 65536, "check pointed")
		wantStream(t, d, 126*520*(round+1), "check pointed")
	}
}

// Mt1: Sync syncs the device, and no page is written for it; the stream is as it was.
func TestSync(t *testing.T) {
	for frames := 1; frames <= 3; frames++ {
		d, m := open(t, 3, frames)
		m.Sync()
		wantPending(t, d, 0, 0, "nothing to sync")
		one, two := groupOf(1, 0), groupOf(2, 0)
		do(t, m.Apply(one))
		do(t, m.Apply(two))
		wantPending(t, d, 0, 1040, "applied")
		m.Sync()
		wantPending(t, d, 0, 0, "synced")
		wantStream(t, d, 0, "synced", one, two)
		wantOnDevice(t, d, "synced", 100, 101, 102)
		wantRead(t, m, "synced", 2)
		d.Crash(nil, 0)
		wantStream(t, d, 0, "crashed", one, two)
		wantRead(t, openOf(t, d, frames), "opened anew", 2, 101, 102)
	}
	d, m := open(t, 3, 3)
	do(t, d.Write(2, pageOf(5)))
	m.Sync()
	wantPending(t, d, 0, 0, "pages are synced too")
}

// Mt1: the pool knows of Sync: a page whose record is synced is written without another one, and one whose record is not is.
func TestPoolKnowsOfSync(t *testing.T) {
	for _, check := range []bool{false, true} {
		d, m := open(t, 4, 4)
		if check {
			do(t, m.Apply(groupOf(7, 3)))
			m.Checkpoint()
		}
		do(t, m.Apply(groupOf(1, 0, 1)))
		m.Sync()
		do(t, m.Apply(groupOf(2, 2)))
		wantPending(t, d, 0, 520, "one is not synced")
		do(t, m.Evict(0))
		wantPending(t, d, 4, 520, "a page of the one that is synced")
		do(t, m.Evict(2))
		wantPending(t, d, 4, 0, "the page of the other one: a Sync, and four sectors")
		do(t, m.Apply(groupOf(3, 3)))
		do(t, m.Evict(1))
		wantPending(t, d, 8, 520, "again one that is synced")
		do(t, m.Evict(3))
		wantPending(t, d, 4, 0, "and one that is not")
	}
	d, m := open(t, 4, 4)
	do(t, m.Apply(groupOf(1, 0)))
	d.Sync()
	do(t, m.Apply(groupOf(2, 1)))
	do(t, m.Evict(0))
	wantPending(t, d, 4, 0, "a Sync that the pool was not told of")
}

// Mt1: a page is as new as its last group: its place is behind that one's record.
func TestPlaceOfLastGroup(t *testing.T) {
	d, m := open(t, 2, 2)
	do(t, m.Apply(groupOf(1, 0, 1)))
	m.Sync()
	do(t, m.Apply(groupOf(2, 0)))
	do(t, m.Evict(1))
	wantPending(t, d, 4, 520, "the elder one's page")
	do(t, m.Evict(0))
	wantPending(t, d, 4, 0, "the page of both")
}

// Mt1: a page's place is just behind its record: where all but that one's last byte is synced, there is a Sync ahead of the page, and where that is too, there is none.
func TestPlaceToTheByte(t *testing.T) {
	for _, kept := range []int{0, 1, 518, 519, 520} {
		d, m := open(t, 2, 2)
		do(t, m.Apply(groupOf(1, 0)))
		d.Crash(nil, kept)
		m.Sync()
		add(t, d, 3)
		do(t, m.Evict(0))
		if kept == 520 {
			wantPending(t, d, 4, 3, "the whole record is synced")
		} else {
			wantPending(t, d, 4, 0, fmt.Sprintf("%d bytes of the record are synced", kept))
		}
	}
}

// Mt1: Checkpoint writes all pages, rising, and forgets the stream; all is synced. With few frames and with many; behind Sync or not; twice.
func TestCheckpoint(t *testing.T) {
	for frames := 1; frames <= 6; frames++ {
		for _, sync := range []bool{false, true} {
			d, m := open(t, 5, frames)
			m.Checkpoint()
			wantStream(t, d, 0, "nothing to write")
			wantPending(t, d, 0, 0, "nothing to write")
			do(t, m.Apply(groupOf(1, 0, 3)))
			do(t, m.Apply(groupOf(2, 3, 4)))
			if sync {
				m.Sync()
			}
			end := 2 * size(2)
			for range 2 {
				m.Checkpoint()
				wantPending(t, d, 0, 0, "check pointed")
				wantStream(t, d, end, "check pointed")
				wantOnDevice(t, d, "check pointed", 1, 101, 102, 2, 2)
				wantLeft(t, m, 65536, "check pointed")
			}
			do(t, m.Apply(groupOf(3, 1)))
			wantStream(t, d, end, "one more", groupOf(3, 1))
			d.Crash(nil, 0)
			wantStream(t, d, end, "crashed")
			wantOnDevice(t, d, "crashed", 1, 101, 102, 2, 2)
		}
	}
}

// Mt1: a check point, unit by unit: the stream is synced, then the pages are written, rising, and synced, then it is trimmed, and that is synced.
func TestCheckpointUnitByUnit(t *testing.T) {
	one, two := groupOf(1, 1, 2), groupOf(2, 0)
	for n := range 15 {
		d, m := open(t, 3, 3)
		do(t, m.Apply(one))
		do(t, m.Apply(two))
		d.Arm(n)
		m.Checkpoint()
		if d.Gone() != (n < 13) {
			t.Fatalf("armed with %d: Gone = %v", n, d.Gone())
		}
		if n < 12 {
			wantPending(t, d, n, 0, "what is of account")
		} else {
			wantPending(t, d, 0, 0, "all is synced")
		}
		wantStream(t, d, size(2)+520, "seen")
		wantRead(t, m, "seen", 2, 1, 1)
		d.Crash(nil, 0)
		switch {
		case n < 12:
			wantOnDevice(t, d, "not synced", 100, 101, 102)
			wantStream(t, d, 0, "not trimmed", one, two)
		case n == 12:
			wantOnDevice(t, d, "synced ahead of the trimming", 2, 1, 1)
			wantStream(t, d, 0, "not trimmed", one, two)
		default:
			wantOnDevice(t, d, "synced", 2, 1, 1)
			wantStream(t, d, size(2)+520, "trimmed")
		}
		wantRead(t, openOf(t, d, 3), "opened anew", 2, 1, 1)
	}
}

// Mt1: the pages are put rising: with one frame each leaves for the next one, in that order, and the last one stays.
func TestApplyRises(t *testing.T) {
	for i := range 8 {
		d, m := open(t, 6, 1)
		do(t, m.Apply(groupOf(1, 1, 3, 4)))
		wantPending(t, d, 8, 0, "two of three are written, the stream first")
		wantStream(t, d, 0, "the stream first", groupOf(1, 1, 3, 4))
		wantOnDevice(t, d, "two of three", 100, 1, 102, 1, 104)
		pattern := make([]bool, 8)
		pattern[i] = true
		d.Crash(pattern, 0)
		page, at := []int{1, 3}[i/4], i%4*128
		want := pageOf(100 + page)
		copy(want[at:at+128], pageOf(1)[at:])
		if b, _ := d.Read(page); !bytes.Equal(b, want) {
			t.Fatalf("write %d is not one of page %d", i, page)
		}
		wantRead(t, openOf(t, d, 1), "opened anew", 100, 1, 102, 1, 1)
	}
}

// Mt2: no page of a group is on the device ahead of the group's whole record: wherever in Apply the power goes, with one frame and with more.
func TestRecordAheadOfPages(t *testing.T) {
	g := groupOf(1, 0, 1, 2)
	for frames := 1; frames <= 3; frames++ {
		for n := 0; n <= size(3)+16; n++ {
			d, m := open(t, 3, frames)
			d.Arm(n)
			do(t, m.Apply(g))
			wantRead(t, m, "seen", 1, 1, 1)
			m.Sync()
			d.Crash([]bool{true}, 10000)
			if n < size(3) {
				wantOnDevice(t, d, "ahead of the record's end", 100, 101, 102)
				if _, b := d.Stream(); !bytes.Equal(b, recordOf(g)[:n]) {
					t.Fatalf("armed with %d: %d bytes of the stream", n, len(b))
				}
				wantRead(t, openOf(t, d, frames), "not at all", 100, 101, 102)
				continue
			}
			wantStream(t, d, 0, "the whole record", g)
			wantRead(t, openOf(t, d, frames), "together", 1, 1, 1)
		}
	}
}

// The chapter's example: Apply, a crash that keeps nothing: opened anew as ahead of it.
func TestExample(t *testing.T) {
	for frames := 1; frames <= 3; frames++ {
		d, m := open(t, 3, 3)
		do(t, m.Apply(groupOf(1, 0, 2)))
		d.Crash(nil, 0)
		m = openOf(t, d, frames)
		wantRead(t, m, "opened anew", 100, 101, 102)
		wantLeft(t, m, 65536, "opened anew")
	}
}

// Mt2: of groups that are not synced the first ones are there, as many as the stream has whole, to the byte.
func TestFirstOnes(t *testing.T) {
	for units := range 3*520 + 3 {
		d, m := open(t, 2, 2)
		do(t, m.Apply(groupOf(1, 0, 1)))
		m.Sync()
		do(t, m.Apply(groupOf(2, 0)))
		do(t, m.Apply(groupOf(3, 1)))
		do(t, m.Apply(groupOf(4, 0)))
		d.Crash(nil, units)
		want := [][]int{{1, 1}, {2, 1}, {2, 3}, {4, 3}}[min(units/520, 3)]
		wantRead(t, openOf(t, d, 2), fmt.Sprintf("%d units", units), want...)
	}
}

// past is what pages may be behind a crash: as behind the first groups, from those that were synced on.
type past struct {
	states [][]int // the tags, as behind each group
	synced int     // which one is kept at least
}

func pastOf(pages int) *past {
	var tags []int
	for page := range pages {
		tags = append(tags, 100+page)
	}
	return &past{states: [][]int{tags}}
}

func (h *past) last() []int { return h.states[len(h.states)-1] }

func (h *past) apply(g []api.Image, tag int) {
	tags := slices.Clone(h.last())
	for _, i := range g {
		tags[i.Page] = tag
	}
	h.states = append(h.states, tags)
}

// sync is of account only while there is power.
func (h *past) sync(d *device.Device) {
	if !d.Gone() {
		h.synced = len(h.states) - 1
	}
}

// which is how many groups' state the pages have; the test ends if they have none of those that may be.
func (h *past) which(t *testing.T, m *Mtr, of string) int {
	t.Helper()
	for k := len(h.states) - 1; k >= h.synced; k-- {
		if holds(m, h.states[k]) {
			return k
		}
	}
	for k := range h.synced {
		if holds(m, h.states[k]) {
			t.Fatalf("%s: the pages are as behind %d groups, and %d were synced", of, k, h.synced)
		}
	}
	t.Fatalf("%s: the pages are not as behind any of %d groups", of, len(h.states)-1)
	return 0
}

func holds(m *Mtr, tags []int) bool {
	for page, tag := range tags {
		if b, e := m.Read(page); e != api.OK || !bytes.Equal(b, pageOf(tag)) {
			return false
		}
	}
	return m.Pages() == len(tags)
}

// patterns are what of sectors' writes is kept.
func patterns() [][]bool {
	return [][]bool{nil, {true}, {false}, {true, false}, {false, true}, {true, true, false}, {false, false, true}, {true, false, false, false}, {false, true, true, true, true}}
}

// story is a few calls, at whose end the power may be gone.
func story(t *testing.T, d *device.Device, m *Mtr) *past {
	t.Helper()
	h := pastOf(3)
	apply := func(tag int, pages ...int) {
		g := groupOf(tag, pages...)
		do(t, m.Apply(g))
		h.apply(g, tag)
	}
	apply(1, 0, 1)
	m.Sync()
	h.sync(d)
	apply(2, 1)
	m.Evict(1)
	apply(3, 0, 2)
	m.Checkpoint()
	h.sync(d)
	apply(4, 0, 1, 2)
	return h
}

// Mt2: a power that goes at each unit of a few calls, and crashes that keep this or that of what is not synced.
func TestPowerGoesAnywhere(t *testing.T) {
	told := map[int]int{}
	for frames := 1; frames <= 3; frames++ {
		units := unitsOf(t, frames)
		tried := map[int]bool{}
		for n := 0; n <= units+40; n++ {
			for i, pattern := range patterns() {
				if (n+i)%7 != 0 && n < units {
					continue
				}
				for j, kept := range []int{0, 1, 519, 520, 521, 1033, 1553, math.MaxInt} {
					if (n+i+j)%4 != 0 { // by its number in the list, so that no unit is passed over altogether
						continue
					}
					tried[n] = true
					d, m := open(t, 3, frames)
					d.Arm(n)
					h := story(t, d, m)
					d.Crash(pattern, kept)
					k := h.which(t, openOf(t, d, 1+n%3), fmt.Sprintf("%d frames, armed with %d, pattern %v, %d units", frames, n, pattern, kept))
					told[k]++
				}
			}
		}
		if len(tried) != units+41 {
			t.Errorf("%d frames: the power went at %d places of %d", frames, len(tried), units+41)
		}
	}
	for k := range 5 {
		if told[k] < 50 {
			t.Errorf("behind %d groups: %d: too few to tell", k, told[k])
		}
	}
}

// unitsOf is how many units the story has.
func unitsOf(t *testing.T, frames int) int {
	t.Helper()
	low, high := 0, 10000
	for low < high {
		n := (low + high) / 2
		d, m := open(t, 3, frames)
		d.Arm(n)
		story(t, d, m)
		if d.Gone() {
			low = n + 1
		} else {
			high = n
		}
	}
	return low
}

// Mt2: a power that goes at each unit while it is opened, and again at each unit while it is opened anew, whatever of the sectors is kept.
func TestPowerGoesWhileOpening(t *testing.T) {
	falls := 0
	for frames := 1; frames <= 3; frames++ {
		for first := range 32 {
			for second := range 32 {
				d, m := open(t, 3, 3)
				h := story(t, d, m)
				do(t, m.Apply(groupOf(5, 1)))
				h.apply(groupOf(5, 1), 5)
				m.Sync()
				h.sync(d)
				pattern := patterns()[(first+second)%9]
				d.Crash(pattern, 0)
				for _, n := range []int{first, second} {
					d.Arm(n)
					m = openOf(t, d, frames)
					if d.Gone() {
						falls++
					}
					wantRead(t, m, "seen", h.last()...)
					d.Crash(pattern, n%3)
				}
				m = openOf(t, d, 1+first%3)
				wantRead(t, m, fmt.Sprintf("armed with %d and %d", first, second), h.last()...)
			}
		}
	}
	if falls < 1000 {
		t.Errorf("%d falls: too few to tell", falls)
	}
}

// life is a device that is used, crashed and opened anew, with all that may be told of it.
type life struct {
	d   *device.Device
	m   *Mtr
	h   *past
	r   *rand.Rand
	tag int
	n   map[string]int // what came about, how often
}

// step is a strewn call.
func (l *life) step(t *testing.T) {
	t.Helper()
	pages := l.d.Pages()
	switch k := l.r.IntN(20); {
	case k < 9:
		l.apply(t)
	case k < 11:
		l.m.Sync()
		l.h.sync(l.d)
	case k < 12:
		l.m.Checkpoint()
		l.h.sync(l.d)
	case k < 15:
		l.m.Evict(l.r.IntN(pages))
	case k < 18:
		page := l.r.IntN(pages)
		b, e := l.m.Read(page)
		if e != api.OK || !bytes.Equal(b, pageOf(l.h.last()[page])) {
			t.Fatalf("page %d is not what was applied last, error %d", page, e)
		}
	case k < 19 && l.r.IntN(4) == 0:
		l.m = openOf(t, l.d, 1+l.r.IntN(6)) // with no crash ahead of it: as it was
		l.h.sync(l.d)
		wantRead(t, l.m, "opened with no crash ahead of it", l.h.last()...)
		l.n["opened with no crash"]++
	}
}

func (l *life) apply(t *testing.T) {
	t.Helper()
	l.tag++
	pages := l.r.Perm(l.d.Pages())
	pages = pages[:1+l.r.IntN(min(len(pages), 6))]
	slices.Sort(pages)
	g := groupOf(l.tag, pages...)
	e := l.m.Apply(g)
	if room := l.m.Left() >= size(len(g)); e == api.ErrLog && room || e != api.OK && e != api.ErrLog {
		t.Fatalf("Apply: error %d", e)
	}
	if e == api.ErrLog {
		l.n["no room"]++
		return
	}
	l.h.apply(g, l.tag)
}

// fall is a crash, and Open anew, in which the power may go again.
func (l *life) fall(t *testing.T) {
	t.Helper()
	if l.d.Gone() {
		l.n["the power went in a call"]++
	}
	l.crash()
	for l.r.IntN(2) == 0 {
		l.d.Arm(l.r.IntN(40))
		m := openOf(t, l.d, 1+l.r.IntN(6))
		k := l.h.which(t, m, "seen while it is opened")
		if l.d.Gone() {
			l.n["the power went while opening"]++
		}
		l.h = &past{states: [][]int{l.h.states[k]}} // it is the crash ahead of it that said how many
		l.crash()
	}
	l.m = openOf(t, l.d, 1+l.r.IntN(6))
	k := l.h.which(t, l.m, "opened anew")
	switch {
	case len(l.h.states) == 1:
	case k == len(l.h.states)-1:
		l.n["all are there"]++
	case k == l.h.synced:
		l.n["just those that were synced"]++
	default:
		l.n["some"]++
	}
	l.h = &past{states: [][]int{l.h.states[k]}}
}

func (l *life) crash() {
	pattern := make([]bool, l.r.IntN(6))
	for i := range pattern {
		pattern[i] = l.r.IntN(3) > 0
	}
	units := math.MaxInt
	if l.r.IntN(5) > 0 {
		units = l.r.IntN(9000) - 100
	}
	l.d.Crash(pattern, units)
}

// Mt2: strewn calls, falls of the power in mid-call and in mid-Open, again and again, and crashes that keep any of it: opened anew the pages are those behind the first groups, all that were synced among them.
func TestStrewnLives(t *testing.T) {
	r := rand.New(rand.NewPCG(13, 1))
	told := map[string]int{}
	for range 300 {
		d, m := open(t, 1+r.IntN(8), 1+r.IntN(6))
		l := &life{d: d, m: m, h: pastOf(d.Pages()), r: r, tag: 200, n: told}
		for range 8 {
			if r.IntN(2) == 0 {
				d.Arm(r.IntN(12000))
			}
			for range r.IntN(30) {
				l.step(t)
			}
			l.fall(t)
		}
	}
	for _, s := range []string{"opened with no crash", "the power went in a call", "the power went while opening", "all are there", "just those that were synced", "some"} {
		if told[s] < 100 {
			t.Errorf("%s: %d: too few to tell", s, told[s])
		}
	}
}

// Mt2: the same, of rows of calls so long that the stream is full now and then.
func TestLongLives(t *testing.T) {
	r := rand.New(rand.NewPCG(13, 2))
	told := map[string]int{}
	for range 20 {
		d, m := open(t, 2+r.IntN(10), 1+r.IntN(6))
		l := &life{d: d, m: m, h: pastOf(d.Pages()), r: r, tag: 200, n: told}
		for range 3 {
			for range 200 {
				l.apply(t)
				if r.IntN(100) == 0 {
					m.Checkpoint()
					l.h.sync(d)
				}
			}
			l.fall(t)
			m = l.m
		}
	}
	if told["no room"] < 100 {
		t.Errorf("%d without room: too few to tell", told["no room"])
	}
}

// Mt2: a second crash behind Open changes nothing: what is opened is synced.
func TestOpenedTwice(t *testing.T) {
	for i, pattern := range patterns() {
		d, m := open(t, 3, 1+i%3)
		h := story(t, d, m)
		d.Crash(pattern, 520*i)
		m = openOf(t, d, 2)
		k := h.which(t, m, "once")
		was := look(d)
		d.Crash(patterns()[8-i], i)
		if look(d) != was {
			t.Fatal("a crash behind Open has changed the device")
		}
		wantRead(t, openOf(t, d, 2), "twice", h.states[k]...)
		if look(d) != was {
			t.Fatal("a second Open has changed the device")
		}
	}
}

// turns are what both a Mtr and one on paper do.
type turns interface {
	Read(page int) ([]byte, api.Errno)
	Apply(g []api.Image) api.Errno
	Sync()
	Checkpoint()
	Evict(page int) api.Errno
	Left() int
	Pages() int
}

// a paper is a Mtr by the words of the chapter, over a device of its own: it goes by layer 12's pool, and by layer 6's Row.
type paper struct {
	d *device.Device
	p *pool.Pool
}

func paperOf(d *device.Device, frames int) *paper {
	w := &paper{d: d}
	w.p, _ = pool.New(d, frames)
	place, b := d.Stream()
	groups, _ := redo.Row(b)
	for _, g := range groups {
		place += size(len(g))
		for _, i := range g {
			w.p.Put(i.Page, i.B, place)
		}
	}
	w.Checkpoint()
	return w
}

func (w *paper) Read(page int) ([]byte, api.Errno) { return w.p.Read(page) }

func (w *paper) Apply(g []api.Image) api.Errno {
	if len(g) == 0 || len(g) > 6 {
		return api.ErrArg
	}
	for k, i := range g {
		if i.Page < 0 || i.Page > 63 || len(i.B) != 512 || k > 0 && g[k-1].Page >= i.Page {
			return api.ErrArg
		}
	}
	for _, i := range g {
		if i.Page >= w.d.Pages() {
			return api.ErrNone
		}
	}
	if size(len(g)) > w.Left() {
		return api.ErrLog
	}
	w.d.Append(recordOf(g))
	base, b := w.d.Stream()
	for _, i := range g {
		w.p.Put(i.Page, i.B, base+len(b))
	}
	return api.OK
}

func (w *paper) Sync() {
	w.d.Sync()
	w.p.Synced()
}

func (w *paper) Checkpoint() {
	w.p.Flush()
	w.d.Sync()
	w.p.Synced()
	base, b := w.d.Stream()
	w.d.Trim(base + len(b))
	w.d.Sync()
	w.p.Synced()
}

func (w *paper) Evict(page int) api.Errno { return w.p.Evict(page) }

func (w *paper) Left() int {
	_, b := w.d.Stream()
	return 65536 - len(b)
}

func (w *paper) Pages() int { return w.d.Pages() }

// pair is a Mtr and one on paper, over devices that are alike.
type pair struct {
	m    *Mtr
	d    *device.Device
	w    *paper
	said []string
}

func pairOf(t *testing.T, pages, frames int) *pair {
	t.Helper()
	d, m := open(t, pages, frames)
	return &pair{m: m, d: d, w: paperOf(disk(t, pages), frames)}
}

// step is a call on a pair's halves; it tells what was answered.
type step func(x *pair) (string, string)

// on is a step that is the same on both halves.
func on(call func(m turns, d *device.Device) string) step {
	return func(x *pair) (string, string) { return call(x.m, x.d), call(x.w, x.w.d) }
}

func readStep(page int) step {
	return on(func(m turns, d *device.Device) string {
		b, e := m.Read(page)
		return fmt.Sprintf("Read(%d) = %x, %d", page, b, e)
	})
}

func applyStep(g []api.Image) step {
	return on(func(m turns, d *device.Device) string {
		s := ""
		for _, i := range g {
			s += fmt.Sprintf(" %d (%d)", i.Page, len(i.B))
		}
		return fmt.Sprintf("Apply%s = %d", s, m.Apply(g))
	})
}

func evictStep(page int) step {
	return on(func(m turns, d *device.Device) string { return fmt.Sprintf("Evict(%d) = %d", page, m.Evict(page)) })
}

func syncStep() step {
	return on(func(m turns, d *device.Device) string { m.Sync(); return "Sync" })
}

func checkStep() step {
	return on(func(m turns, d *device.Device) string { m.Checkpoint(); return "Checkpoint" })
}

func appendStep(n int) step {
	return on(func(m turns, d *device.Device) string {
		return fmt.Sprintf("Append(%d noughts) = %d", n, d.Append(make([]byte, n)))
	})
}

// fillStep lets noughts follow till so many bytes are left.
func fillStep(left int) step {
	return on(func(m turns, d *device.Device) string {
		_, b := d.Stream()
		return fmt.Sprintf("Append(all but %d) = %d", left, d.Append(make([]byte, max(65536-len(b)-left, 0))))
	})
}

func strangeStep(g []api.Image) step {
	return on(func(m turns, d *device.Device) string {
		return fmt.Sprintf("Append(a record of %d) = %d", len(g), d.Append(recordOf(g)))
	})
}

func trimStep() step {
	return on(func(m turns, d *device.Device) string {
		base, b := d.Stream()
		return fmt.Sprintf("Trim = %d", d.Trim(base+len(b)/2))
	})
}

func armStep(n int) step {
	return on(func(m turns, d *device.Device) string { d.Arm(n); return fmt.Sprintf("Arm(%d)", n) })
}

func crashStep(pattern []bool, units int) step {
	return on(func(m turns, d *device.Device) string {
		d.Crash(pattern, units)
		return fmt.Sprintf("Crash(%v, %d)", pattern, units)
	})
}

func openStep(frames int) step {
	return func(x *pair) (string, string) {
		m, e := Open(x.d, frames)
		x.m, x.w = m, paperOf(x.w.d, frames)
		return fmt.Sprintf("Open(%d) = %d", frames, e), fmt.Sprintf("Open(%d) = 0", frames)
	}
}

// do takes a step on both, and holds all that is told against each other.
func (x *pair) do(t *testing.T, s step) string {
	t.Helper()
	got, want := s(x)
	x.said = append(x.said, want[:min(len(want), 60)])
	if got != want {
		t.Fatalf("%v:\ngot  %.300s\nwant %.300s", x.said, got, want)
	}
	if x.m.Left() != x.w.Left() || x.m.Pages() != x.w.Pages() {
		t.Fatalf("%v: Left = %d, want %d; Pages = %d, want %d", x.said, x.m.Left(), x.w.Left(), x.m.Pages(), x.w.Pages())
	}
	sectors, units := x.w.d.Pending()
	wantPending(t, x.d, sectors, units, fmt.Sprint(x.said))
	return want
}

// wantAlike holds the devices against each other, as they are, and behind a crash.
func (x *pair) wantAlike(t *testing.T, pattern []bool, units int) {
	t.Helper()
	if look(x.d) != look(x.w.d) {
		t.Fatalf("%v: the devices are not alike", x.said)
	}
	x.d.Crash(pattern, units)
	x.w.d.Crash(pattern, units)
	if look(x.d) != look(x.w.d) {
		t.Fatalf("%v: the devices are not alike behind a crash", x.said)
	}
}

// Mt1: all rows of four calls out of a few, with one frame and with two, are held against the chapter's words.
func TestAllShortRows(t *testing.T) {
	steps := []step{
		applyStep(groupOf(1, 0)), applyStep(groupOf(2, 0, 1)), applyStep(groupOf(3, 1, 2)), applyStep(groupOf(4, 2, 3)),
		readStep(0), readStep(2), evictStep(0), evictStep(1), syncStep(), checkStep(), openStep(1),
	}
	for frames := 1; frames <= 2; frames++ {
		row := make([]int, 4)
		for {
			x := pairOf(t, 3, frames)
			for _, i := range row {
				x.do(t, steps[i])
			}
			x.wantAlike(t, []bool{true, false, true}, 700)
			if !next(row, len(steps)) {
				break
			}
		}
	}
}

// next counts a row of numbers below n up; false: that was the last one.
func next(row []int, n int) bool {
	for i := range row {
		row[i]++
		if row[i] < n {
			return true
		}
		row[i] = 0
	}
	return false
}

// anyGroup is images of a device of so many pages: most of the time a group.
func anyGroup(r *rand.Rand, n int) []api.Image {
	pages := r.Perm(min(n+r.IntN(2), 64))
	pages = pages[:min(len(pages), 1+r.IntN(3))]
	if r.IntN(6) == 0 {
		pages = r.Perm(64)[:r.IntN(8)]
	}
	if r.IntN(10) > 0 {
		slices.Sort(pages)
	}
	g := groupOf(r.IntN(60000), pages...)
	if len(g) > 0 && r.IntN(20) == 0 {
		i := &g[r.IntN(len(g))]
		i.B = append(i.B, 7)[:[]int{0, 511, 513}[r.IntN(3)]]
	}
	return g
}

// anyStep is a step out of all kinds, on a device of so many pages.
func anyStep(r *rand.Rand, n int) step {
	page := r.IntN(n)
	if r.IntN(20) == 0 {
		page = []int{-1, n, math.MinInt, math.MaxInt, 64}[r.IntN(5)]
	}
	switch k := r.IntN(100); {
	case k < 20:
		return readStep(page)
	case k < 60:
		return applyStep(anyGroup(r, n))
	case k < 70:
		return evictStep(page)
	case k < 78:
		return syncStep()
	case k < 82:
		return checkStep()
	case k < 83:
		return appendStep(r.IntN(4) * r.IntN(9000))
	case k < 84:
		return fillStep(r.IntN(1200))
	case k < 86:
		return strangeStep(groupOf(r.IntN(60000), page&63, 64-r.IntN(2)))
	case k < 88:
		return trimStep()
	case k < 92:
		return armStep(r.IntN(4000) - 100)
	case k < 96:
		return crashStep([]bool{r.IntN(2) == 0, r.IntN(2) == 0, true}, r.IntN(4000)-10)
	default:
		return openStep(1 + r.IntN(6))
	}
}

// Mt1: strewn rows of calls, on the Mtr and on its device, are held against the chapter's words.
func TestStrewnRows(t *testing.T) {
	r := rand.New(rand.NewPCG(13, 3))
	told := map[string]int{}
	for range 700 {
		n := 1 + r.IntN(8)
		if r.IntN(10) == 0 {
			n = 64
		}
		x := pairOf(t, n, 1+r.IntN(6))
		for range 10 + r.IntN(50) {
			said := x.do(t, anyStep(r, n))
			told[said[:4]+said[len(said)-3:]]++
		}
		x.wantAlike(t, []bool{true, r.IntN(2) == 0, false}, r.IntN(2000))
	}
	for _, s := range []string{"Read, 0", "Read, 3", "Appl= 0", "Appl= 1", "Appl= 3", "Evic= 0", "Evic= 3", "Open= 0"} {
		if told[s] < 100 {
			t.Errorf("%s: %d: too few to tell", s, told[s])
		}
	}
	if told["Appl 10"] < 20 {
		t.Errorf("no room: %d: too few to tell", told["Appl 10"])
	}
}

// R1: of a Mtr that Open did not give: ErrNone, ErrArg, nothing; and it stays so.
func TestOfNoMtr(t *testing.T) {
	made, _ := Open(nil, 1)
	for name, m := range map[string]*Mtr{"nil": nil, "zero": {}, "new": new(Mtr), "what Open gave beside an error": made} {
		for range 2 {
			for _, page := range []int{-1, 0, 1, 63, 64, math.MinInt, math.MaxInt} {
				if b, e := m.Read(page); len(b) != 0 || e != api.ErrNone {
					t.Errorf("%s: Read(%d): %d bytes, error %d", name, page, len(b), e)
				}
				wantErr(t, m.Evict(page), api.ErrNone, name+": Evict")
				wantErr(t, m.Apply(groupOf(1, page)), api.ErrArg, name+": Apply")
			}
			for of, g := range bad() {
				wantErr(t, m.Apply(g), api.ErrArg, name+": Apply: "+of)
			}
			wantErr(t, m.Apply(groupOf(1, 0, 1, 2, 3, 4, 5)), api.ErrArg, name+": Apply of six")
			m.Sync()
			m.Checkpoint()
			wantLeft(t, m, 0, name)
			if n := m.Pages(); n != 0 {
				t.Errorf("%s: Pages = %d", name, n)
			}
		}
	}
}

// R1: one whose device is gone from under it ends its calls all the same.
func TestDeviceTakenAway(t *testing.T) {
	d, m := open(t, 4, 2)
	do(t, m.Apply(groupOf(1, 0, 3)))
	*d = device.Device{}
	for page := -1; page < 5; page++ {
		m.Read(page)
		m.Apply(groupOf(2, page))
		m.Evict(page)
	}
	m.Sync()
	m.Checkpoint()
	m.Left()
	if n := m.Pages(); n != 0 {
		t.Errorf("Pages = %d", n)
	}
}

// R1: once the power is gone all is seen as before, and nothing of it is of account.
func TestBehindTheFall(t *testing.T) {
	d, m := open(t, 3, 1)
	do(t, m.Apply(groupOf(1, 0)))
	m.Sync()
	d.Arm(0)
	for i := range 130 {
		if m.Left() < 520 {
			m.Checkpoint()
			wantLeft(t, m, 65536, "gone")
		}
		do(t, m.Apply(groupOf(200+i, i%3)))
		m.Evict(i % 3)
		m.Sync()
	}
	wantRead(t, m, "gone", 329, 327, 328)
	wantPending(t, d, 0, 0, "gone")
	d.Crash([]bool{true}, 100000)
	wantRead(t, openOf(t, d, 1), "opened anew", 1, 101, 102)
}

// R3: what is handed in is not changed, with the room behind its end, and not kept.
func TestApplyKeepsNothing(t *testing.T) {
	for frames := 1; frames <= 3; frames++ {
		d, m := open(t, 4, frames)
		room := append(pageOf(1), pageOf(2)...)
		rest := append(pageOf(3), pageOf(4)...)
		g := []api.Image{{Page: 0, B: room[:512]}, {Page: 2, B: rest[:512]}, {Page: 3, B: pageOf(5)}}
		do(t, m.Apply(g[:2]))
		m.Sync()
		wantRead(t, m, "applied", 1, 101, 3)
		m.Evict(0)
		wantErr(t, m.Apply(g[1:1]), api.ErrArg, "none")
		wantErr(t, m.Apply([]api.Image{{Page: 1, B: room[:511]}}), api.ErrArg, "511 bytes")
		if !bytes.Equal(room, append(pageOf(1), pageOf(2)...)) || !bytes.Equal(rest, append(pageOf(3), pageOf(4)...)) {
			t.Fatal("bytes that were handed in have changed")
		}
		if g[0].Page != 0 || g[1].Page != 2 || g[2].Page != 3 || !bytes.Equal(g[2].B, pageOf(5)) || &g[0].B[0] != &room[0] || &g[1].B[0] != &rest[0] {
			t.Fatal("images that were handed in have changed")
		}
		do(t, m.Apply(g[:2]))
		clear(room)
		clear(rest)
		clear(g)
		wantRead(t, m, "behind the images' being cleared", 1, 101, 3, 103)
		m.Checkpoint()
		wantOnDevice(t, d, "behind the images' being cleared", 1, 101, 3, 103)
		do(t, m.Apply(groupOf(6, 1)))
		d.Crash(nil, 520)
		wantRead(t, openOf(t, d, frames), "opened anew", 1, 6, 3, 103)
	}
}

// R3: one image's bytes may be another's: each page has its own behind it.
func TestImagesThatShare(t *testing.T) {
	_, m := open(t, 3, 3)
	b := pageOf(1)
	do(t, m.Apply([]api.Image{{Page: 0, B: b}, {Page: 1, B: b}}))
	a, _ := m.Read(0)
	spoil(a)
	spoil(b)
	wantRead(t, m, "spoilt", 1, 1, 102)
	do(t, m.Apply(groupOf(2, 0)))
	wantRead(t, m, "one of them anew", 2, 1, 102)
}

// spoil writes over a list, its spare room too.
func spoil(b []byte) {
	b = b[:cap(b)]
	for i := range b {
		b[i] ^= 0xEE
	}
}

// R3: what is told shares no memory with what is kept, nor with another answer.
func TestAnswersAreNew(t *testing.T) {
	d, m := open(t, 4, 4)
	do(t, m.Apply(groupOf(1, 1, 3)))
	for page, tag := range []int{100, 1, 102, 1} {
		for range 3 {
			a, _ := m.Read(page)
			b, _ := m.Read(page)
			spoil(a)
			if !bytes.Equal(b, pageOf(tag)) {
				t.Fatalf("page %d: two answers share memory", page)
			}
			spoil(b)
		}
	}
	wantRead(t, m, "spoilt answers", 100, 1, 102, 1)
	wantStream(t, d, 0, "spoilt answers", groupOf(1, 1, 3))
	m.Checkpoint()
	wantOnDevice(t, d, "spoilt answers", 100, 1, 102, 1)
	b, _ := m.Read(1)
	spoil(b)
	wantOnDevice(t, d, "spoilt behind the writing", 100, 1, 102, 1)
	wantRead(t, m, "spoilt behind the writing", 100, 1, 102, 1)
}

// R3: what the device tells of its stream and pages is not what is kept.
func TestDeviceSharesNothing(t *testing.T) {
	d := disk(t, 2)
	do(t, d.Append(recordOf(groupOf(1, 0))))
	m := openOf(t, d, 2)
	_, b := d.Stream()
	spoil(b)
	p, _ := d.Read(0)
	spoil(p)
	do(t, d.Write(0, pageOf(9)))
	wantRead(t, m, "written over on the device", 1, 101)
}

// R4: two on which the same is called tell the same, and neither knows of the other.
func TestAgain(t *testing.T) {
	run := func(seed uint64) string {
		r := rand.New(rand.NewPCG(13, seed))
		x, other := pairOf(t, 16, 4), pairOf(t, 16, 2)
		s := ""
		for range 100 {
			s += x.do(t, anyStep(r, 16))
			other.m.Apply(groupOf(r.IntN(9), r.IntN(16)))
		}
		return s + look(x.d)
	}
	for seed := range uint64(20) {
		if run(seed) != run(seed) {
			t.Fatalf("seed %d: another answer", seed)
		}
	}
}
