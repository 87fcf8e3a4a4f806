package pool

import (
	"bytes"
	"fmt"
	"math"
	"math/rand/v2"
	"slices"
	"testing"

	"humus/api"
	"humus/device"
)

// disk is a device of so many pages, each with a page of its own tag, from 100 on, that is synced.
func disk(t *testing.T, pages int) *device.Device {
	t.Helper()
	d, e := device.New(pages)
	do(t, e)
	for i := range pages {
		do(t, d.Write(i, pageOf(100+i)))
	}
	d.Sync()
	return d
}

// open is such a device, and a pool over it.
func open(t *testing.T, pages, frames int) (*device.Device, *Pool) {
	t.Helper()
	d := disk(t, pages)
	p, e := New(d, frames)
	if p == nil || e != api.OK {
		t.Fatalf("New(%d pages, %d) = %v, %d", pages, frames, p, e)
	}
	return d, p
}

// pageOf is 512 bytes: neither two of its sectors, nor pages with other tags from 0 to 255, have a byte alike at the same place.
func pageOf(tag int) []byte {
	b := make([]byte, 512)
	for i := range b {
		b[i] = byte(tag + 101*i + 17*(i/128))
	}
	return b
}

// do is a call that must go well.
func do(t *testing.T, e api.Errno) {
	t.Helper()
	wantErr(t, e, api.OK, "a call that must go well")
}

func wantErr(t *testing.T, got, want api.Errno, of string) {
	t.Helper()
	if got != want {
		t.Fatalf("%s: error %d, want %d", of, got, want)
	}
}

// wantIn holds the pages that are in, and those of them that are dirty, against lists.
func wantIn(t *testing.T, p *Pool, in, dirty []int, of string) {
	t.Helper()
	if got := p.In(); !slices.Equal(got, in) {
		t.Fatalf("%s: In = %v, want %v", of, got, in)
	}
	if got := p.Dirty(); !slices.Equal(got, dirty) {
		t.Fatalf("%s: Dirty = %v, want %v", of, got, dirty)
	}
}

// wantRead holds what the pool tells of a page against that of a tag.
func wantRead(t *testing.T, p *Pool, page, tag int, of string) {
	t.Helper()
	b, e := p.Read(page)
	if e != api.OK || !bytes.Equal(b, pageOf(tag)) {
		t.Fatalf("%s: Read(%d): %d bytes, not those of tag %d, error %d", of, page, len(b), tag, e)
	}
}

// wantOnDevice holds what the device tells of a page against that of a tag.
func wantOnDevice(t *testing.T, d *device.Device, page, tag int, of string) {
	t.Helper()
	b, e := d.Read(page)
	if e != api.OK || !bytes.Equal(b, pageOf(tag)) {
		t.Fatalf("%s: the device's page %d: %d bytes, not those of tag %d, error %d", of, page, len(b), tag, e)
	}
}

func wantPending(t *testing.T, d *device.Device, sectors, units int, of string) {
	t.Helper()
	if s, u := d.Pending(); s != sectors || u != units {
		t.Fatalf("%s: Pending = %d, %d, want %d, %d", of, s, u, sectors, units)
	}
}

// add lets so many bytes follow in the stream.
func add(t *testing.T, d *device.Device, n int) {
	t.Helper()
	do(t, d.Append(bytes.Repeat([]byte{7}, n)))
}

// look is all that a device tells.
func look(d *device.Device) string {
	base, stream := d.Stream()
	sectors, units := d.Pending()
	s := fmt.Sprint(d.Pages(), base, stream, sectors, units, d.Gone())
	for i := range d.Pages() {
		b, e := d.Read(i)
		s += fmt.Sprint(e) + string(b)
	}
	return s
}

// pages are what both a pool and one on paper do.
type pages interface {
	Read(page int) ([]byte, api.Errno)
	Put(page int, b []byte, place int) api.Errno
	Flush() int
	Synced()
	Evict(page int) api.Errno
	Dirty() []int
	In() []int
}

// a paper is a pool by the words of the chapters 7 and 12, over a device of its own: frames in a row, gone through from the first on whenever something is asked.
type paper struct {
	d      *device.Device
	spots  []spot
	hand   int
	synced int
}

type spot struct {
	full, used, dirty bool
	page, place       int
	b                 []byte
}

func paperOf(d *device.Device, frames int) *paper {
	base, _ := d.Stream()
	return &paper{d: d, spots: make([]spot, frames), synced: base}
}

func (w *paper) Read(page int) ([]byte, api.Errno) {
	if page < 0 || page >= w.d.Pages() {
		return nil, api.ErrNone
	}
	return w.let(page).b, api.OK
}

func (w *paper) Put(page int, b []byte, place int) api.Errno {
	if page < 0 || page >= w.d.Pages() {
		return api.ErrNone
	}
	if len(b) != 512 {
		return api.ErrArg
	}
	s := w.let(page)
	s.b, s.dirty, s.place = slices.Clone(b), true, place
	return api.OK
}

func (w *paper) Flush() int {
	n := 0
	for page := range 64 {
		for i := range w.spots {
			if s := &w.spots[i]; s.full && s.page == page && s.dirty {
				w.write(s)
				n++
			}
		}
	}
	return n
}

func (w *paper) Synced() {
	base, b := w.d.Stream()
	w.synced = base
	for range b {
		w.synced++
	}
}

func (w *paper) Evict(page int) api.Errno {
	for i := range w.spots {
		if s := &w.spots[i]; s.full && s.page == page {
			if s.dirty {
				w.write(s)
			}
			*s = spot{}
			return api.OK
		}
	}
	return api.ErrNone
}

func (w *paper) Dirty() []int { return w.those(func(s spot) bool { return s.dirty }) }

func (w *paper) In() []int { return w.those(func(s spot) bool { return true }) }

func (w *paper) those(which func(s spot) bool) []int {
	var l []int
	for page := range 64 {
		for _, s := range w.spots {
			if s.full && s.page == page && which(s) {
				l = append(l, page)
			}
		}
	}
	return l
}

// let lets a page in; its bytes are the device's, if it was not in.
func (w *paper) let(page int) *spot {
	for i := range w.spots {
		if s := &w.spots[i]; s.full && s.page == page {
			s.used = true
			return s
		}
	}
	s := w.find()
	if s.dirty {
		w.write(s)
	}
	b, _ := w.d.Read(page)
	*s = spot{full: true, used: true, page: page, b: b}
	return s
}

func (w *paper) find() *spot {
	for i := range w.spots {
		if s := &w.spots[i]; !s.full {
			return s
		}
	}
	for {
		s := &w.spots[w.hand]
		w.hand++
		if w.hand == len(w.spots) {
			w.hand = 0
		}
		if !s.used {
			return s
		}
		s.used = false
	}
}

func (w *paper) write(s *spot) {
	if s.place > w.synced {
		w.d.Sync()
		w.Synced()
	}
	w.d.Write(s.page, s.b)
	s.dirty = false
}

// Po1: New of what can't be: no pool, and the device is as it was.
func TestNewOfNone(t *testing.T) {
	d := disk(t, 3)
	add(t, d, 5)
	was := look(d)
	for _, frames := range []int{0, -1, -2, -64, 65, 66, 128, 1 << 32, 1<<32 + 1, math.MinInt, math.MaxInt} {
		for _, o := range []*device.Device{d, nil, {}, new(device.Device)} {
			if p, e := New(o, frames); p != nil || e != api.ErrArg {
				t.Errorf("New(%d pages, %d) = %v, error %d", o.Pages(), frames, p, e)
			}
		}
	}
	for _, frames := range []int{1, 2, 3, 63, 64} {
		for _, o := range []*device.Device{nil, {}, new(device.Device)} {
			if p, e := New(o, frames); p != nil || e != api.ErrArg {
				t.Errorf("New(no device, %d) = %v, error %d", frames, p, e)
			}
		}
	}
	if o, e := device.New(65); e != api.OK {
		if p, e := New(o, 1); p != nil || e != api.ErrArg {
			t.Errorf("New(what device.New(65) gave, 1) = %v, error %d", p, e)
		}
	}
	if look(d) != was {
		t.Error("the device has changed")
	}
}

// Po1: New of 1 to 64 frames over devices of 1 to 64 pages: a pool of nothing; more frames than pages may be, and fewer. The device is as it was.
func TestNew(t *testing.T) {
	for _, n := range []int{1, 2, 3, 63, 64} {
		d := disk(t, n)
		add(t, d, n)
		was := look(d)
		for frames := 1; frames <= 64; frames++ {
			p, e := New(d, frames)
			if p == nil || e != api.OK {
				t.Fatalf("New(%d pages, %d) = %v, error %d", n, frames, p, e)
			}
			wantIn(t, p, nil, nil, "a new one")
			for page := -1; page <= 64; page++ {
				wantErr(t, p.Evict(page), api.ErrNone, "Evict of a page of a new one")
			}
			if n := p.Flush(); n != 0 {
				t.Errorf("Flush of a new one: %d", n)
			}
			p.Synced()
			wantIn(t, p, nil, nil, "a new one, behind calls that do nothing")
		}
		if look(d) != was {
			t.Errorf("%d pages: the device has changed", n)
		}
	}
}

// Po1: a pool has just so many frames: so many pages are in at most, and the next one lets one out.
func TestFrames(t *testing.T) {
	for frames := 1; frames <= 64; frames++ {
		_, p := open(t, 64, frames)
		for page := range 64 {
			wantRead(t, p, page, 100+page, "the first time")
			if got, want := len(p.In()), min(page+1, frames); got != want {
				t.Fatalf("%d frames, %d pages read: %d in", frames, page+1, got)
			}
		}
	}
}

// Po1: In and Dirty rise, in whatever order the pages came.
func TestInAndDirtyRise(t *testing.T) {
	_, p := open(t, 64, 64)
	do(t, p.Put(40, pageOf(1), 0))
	wantIn(t, p, []int{40}, []int{40}, "one")
	wantRead(t, p, 63, 163, "the last page")
	wantIn(t, p, []int{40, 63}, []int{40}, "a clean one behind it")
	do(t, p.Put(0, pageOf(2), 0))
	do(t, p.Put(9, pageOf(3), 0))
	wantRead(t, p, 10, 110, "a page")
	do(t, p.Put(11, pageOf(4), 0))
	wantIn(t, p, []int{0, 9, 10, 11, 40, 63}, []int{0, 9, 11, 40}, "six")
	do(t, p.Evict(9))
	do(t, p.Evict(63))
	wantIn(t, p, []int{0, 10, 11, 40}, []int{0, 11, 40}, "two of them gone")

	r := rand.New(rand.NewPCG(12, 1))
	for range 20 {
		_, p := open(t, 64, 64)
		var in, dirty []int
		for i, page := range r.Perm(64) {
			in = append(in, page)
			if i%3 == 0 {
				wantRead(t, p, page, 100+page, "strewn")
			} else {
				do(t, p.Put(page, pageOf(i), i))
				dirty = append(dirty, page)
			}
			slices.Sort(in)
			slices.Sort(dirty)
			wantIn(t, p, in, dirty, "strewn")
		}
	}
}

// Po2: Read and Put of pages that are none: ErrNone, ahead of bytes that can't be; nothing is let in, none leaves, nothing is synced.
func TestOfNoPage(t *testing.T) {
	for _, n := range []int{1, 2, 3, 63, 64} {
		d, p := open(t, n, 1)
		do(t, p.Put(n-1, pageOf(1), 9))
		add(t, d, 3)
		was := look(d)
		for _, page := range []int{-1, -2, -64, n, n + 1, 64, 65, 128, 1 << 32, math.MinInt, math.MaxInt} {
			if b, e := p.Read(page); len(b) != 0 || e != api.ErrNone {
				t.Errorf("%d pages: Read(%d): %d bytes, error %d", n, page, len(b), e)
			}
			for _, size := range []int{0, 1, 511, 512, 513, 1024} {
				wantErr(t, p.Put(page, make([]byte, size), 0), api.ErrNone, fmt.Sprintf("%d pages: Put(%d, %d bytes)", n, page, size))
			}
			wantErr(t, p.Put(page, nil, 0), api.ErrNone, "Put of nil")
			wantErr(t, p.Evict(page), api.ErrNone, fmt.Sprintf("%d pages: Evict(%d)", n, page))
			wantIn(t, p, []int{n - 1}, []int{n - 1}, "behind what was refused")
		}
		if look(d) != was {
			t.Errorf("%d pages: the device has changed", n)
		}
		wantRead(t, p, n-1, 1, "behind what was refused")
	}
}

// Po2: the first page and the last one, on devices of one page and of many.
func TestOfEdges(t *testing.T) {
	for n := 1; n <= 64; n++ {
		_, p := open(t, n, 2)
		for _, page := range []int{0, n - 1} {
			wantRead(t, p, page, 100+page, "as the device has it")
			do(t, p.Put(page, pageOf(7), 0))
			wantRead(t, p, page, 7, "as it was put")
			do(t, p.Evict(page))
			wantRead(t, p, page, 7, "behind Evict")
			do(t, p.Evict(page))
			do(t, p.Put(page, pageOf(100+page), 0))
			do(t, p.Evict(page))
		}
	}
}

// Po2: Put of other than 512 bytes: ErrArg, and nothing is let in, none leaves, and the page is as it was.
func TestPutOfOtherBytes(t *testing.T) {
	d, p := open(t, 3, 1)
	do(t, p.Put(1, pageOf(5), 4))
	add(t, d, 9)
	was := look(d)
	for _, b := range [][]byte{nil, {}, {1}, make([]byte, 128), make([]byte, 511), make([]byte, 513), make([]byte, 1024), make([]byte, 1<<20), make([]byte, 511, 512), make([]byte, 0, 512)} {
		for page := range 3 {
			for _, place := range []int{0, -1, 5, 9, 10} {
				wantErr(t, p.Put(page, b, place), api.ErrArg, fmt.Sprintf("Put(%d, %d bytes)", page, len(b)))
				wantIn(t, p, []int{1}, []int{1}, "behind what was refused")
			}
		}
	}
	if look(d) != was {
		t.Error("the device has changed")
	}
	wantRead(t, p, 1, 5, "behind what was refused")
	do(t, p.Put(1, make([]byte, 512, 513), 0))
	if b, e := p.Read(1); e != api.OK || !bytes.Equal(b, make([]byte, 512)) {
		t.Error("noughts that were put are not read")
	}
}

// Po2: what is refused does not touch a page: which one leaves next is as if it had not been asked for.
func TestRefusedTouchesNothing(t *testing.T) {
	_, p := open(t, 8, 2)
	p.Read(0)
	p.Read(1)
	p.Read(2) // the hand passed both: 0 left, 1 is used no more
	wantIn(t, p, []int{1, 2}, nil, "three pages in two frames")
	wantErr(t, p.Put(1, make([]byte, 511), 0), api.ErrArg, "511 bytes")
	wantErr(t, p.Put(8, pageOf(1), 0), api.ErrNone, "page 8")
	wantErr(t, p.Evict(0), api.ErrNone, "a page that left")
	p.Read(3)
	wantIn(t, p, []int{2, 3}, nil, "page 1 was not touched")
}

// Po2: a page that is not in is read from the device; in, it is what it was then, whatever the device has meanwhile; it is clean.
func TestReadOfDevice(t *testing.T) {
	d, p := open(t, 4, 2)
	wantRead(t, p, 2, 102, "not in")
	wantIn(t, p, []int{2}, nil, "read")
	do(t, d.Write(2, pageOf(9)))
	wantRead(t, p, 2, 102, "in")
	wantIn(t, p, []int{2}, nil, "read again")
	if n := p.Flush(); n != 0 {
		t.Errorf("Flush of a clean page: %d", n)
	}
	wantOnDevice(t, d, 2, 9, "behind Flush")
	do(t, p.Evict(2))
	wantOnDevice(t, d, 2, 9, "behind Evict")
	wantIn(t, p, nil, nil, "let out")
	wantRead(t, p, 2, 9, "in anew")
	wantIn(t, p, []int{2}, nil, "in anew")
	wantPending(t, d, 4, 0, "clean pages are not written")
}

// Po2: what was put is read, and is not on the device till it is written; it is dirty, be it in ahead of it or not, clean or dirty, and be it just what the device has.
func TestPut(t *testing.T) {
	d, p := open(t, 4, 4)
	do(t, p.Put(1, pageOf(1), 0))
	wantIn(t, p, []int{1}, []int{1}, "not in ahead of it")
	wantRead(t, p, 1, 1, "put")
	wantIn(t, p, []int{1}, []int{1}, "read behind it")
	do(t, p.Put(1, pageOf(2), 0))
	wantIn(t, p, []int{1}, []int{1}, "dirty ahead of it")
	wantRead(t, p, 1, 2, "put again")
	wantRead(t, p, 3, 103, "another one")
	do(t, p.Put(3, pageOf(3), 0))
	wantIn(t, p, []int{1, 3}, []int{1, 3}, "clean ahead of it")
	wantRead(t, p, 3, 3, "put")
	do(t, p.Put(0, pageOf(100), 0))
	wantIn(t, p, []int{0, 1, 3}, []int{0, 1, 3}, "as the device has it")
	wantPending(t, d, 0, 0, "nothing was written")
	for page := range 4 {
		wantOnDevice(t, d, page, 100+page, "nothing was written")
	}
	if n := p.Flush(); n != 3 {
		t.Errorf("Flush of three: %d", n)
	}
	wantPending(t, d, 12, 0, "written, what is as the device had it too")
	wantIn(t, p, []int{0, 1, 3}, nil, "written")
	do(t, p.Put(1, pageOf(4), 0))
	wantIn(t, p, []int{0, 1, 3}, []int{1}, "put behind the writing")
	wantRead(t, p, 1, 4, "put behind the writing")
	wantOnDevice(t, d, 1, 2, "as it was written last")
}

// Po2: a page that was put and has left is read as it was put: behind Evict, and where another one made it leave, by Read or by Put.
func TestPutAndLeft(t *testing.T) {
	d, p := open(t, 4, 1)
	do(t, p.Put(0, pageOf(1), 0))
	do(t, p.Evict(0))
	wantIn(t, p, nil, nil, "Evict")
	wantOnDevice(t, d, 0, 1, "Evict")
	wantRead(t, p, 0, 1, "behind Evict")

	do(t, p.Put(1, pageOf(2), 0))
	wantIn(t, p, []int{1}, []int{1}, "a clean one left")
	wantRead(t, p, 2, 102, "it makes page 1 leave")
	wantIn(t, p, []int{2}, nil, "a dirty one left")
	wantOnDevice(t, d, 1, 2, "left for a Read")
	wantRead(t, p, 1, 2, "behind it")

	do(t, p.Put(1, pageOf(3), 0))
	do(t, p.Put(3, pageOf(4), 0))
	wantIn(t, p, []int{3}, []int{3}, "a dirty one for a dirty one")
	wantOnDevice(t, d, 1, 3, "left for a Put")
	wantOnDevice(t, d, 3, 103, "still in")
	wantRead(t, p, 1, 3, "behind it")
	wantOnDevice(t, d, 3, 4, "left in its turn")
	wantRead(t, p, 3, 4, "behind it")
	wantIn(t, p, []int{3}, nil, "all are clean")
	wantPending(t, d, 16, 0, "four were written")
}

// Po2: a page that leaves is written if it is dirty, and is not if it is clean, as the device's Pending tells it.
func TestOnlyDirtyAreWritten(t *testing.T) {
	d, p := open(t, 8, 1)
	for page := range 8 {
		wantRead(t, p, page, 100+page, "clean ones")
	}
	wantPending(t, d, 0, 0, "clean ones left for clean ones")
	do(t, p.Evict(7))
	wantPending(t, d, 0, 0, "a clean one is let out")
	p.Read(3)
	do(t, p.Put(3, pageOf(1), 0))
	wantPending(t, d, 0, 0, "put")
	p.Read(3)
	do(t, p.Put(3, pageOf(2), 0))
	wantPending(t, d, 0, 0, "put again: it does not leave for itself")
	p.Read(4)
	wantPending(t, d, 4, 0, "a dirty one left for a clean one")
	p.Read(3)
	wantPending(t, d, 4, 0, "a clean one left again")
	p.Read(5)
	wantPending(t, d, 4, 0, "what was written is dirty no more")
	do(t, p.Put(6, pageOf(3), 0))
	wantPending(t, d, 4, 0, "a clean one left for a dirty one")
	do(t, p.Put(7, pageOf(4), 0))
	wantPending(t, d, 8, 0, "a dirty one left for a dirty one")
	if n := p.Flush(); n != 1 {
		t.Errorf("Flush of one: %d", n)
	}
	wantPending(t, d, 12, 0, "Flush")
	do(t, p.Evict(7))
	wantPending(t, d, 12, 0, "let out behind Flush")
}

// Po2: Evict of a page that is in and clean, in and dirty, not in, left already, and none.
func TestEvict(t *testing.T) {
	d, p := open(t, 4, 4)
	for _, page := range []int{-1, 0, 1, 2, 3, 4, 63, 64, math.MinInt, math.MaxInt} {
		wantErr(t, p.Evict(page), api.ErrNone, "Evict of a page that is not in")
	}
	p.Read(0)
	do(t, p.Put(1, pageOf(1), 0))
	do(t, p.Put(2, pageOf(2), 0))
	for _, page := range []int{-1, 3, 4, 63, 64, math.MinInt, math.MaxInt} {
		wantErr(t, p.Evict(page), api.ErrNone, "Evict of a page that is not in")
	}
	wantIn(t, p, []int{0, 1, 2}, []int{1, 2}, "none let out")
	do(t, p.Evict(0))
	wantIn(t, p, []int{1, 2}, []int{1, 2}, "a clean one")
	wantPending(t, d, 0, 0, "a clean one")
	do(t, p.Evict(2))
	wantIn(t, p, []int{1}, []int{1}, "a dirty one")
	wantPending(t, d, 4, 0, "a dirty one")
	wantOnDevice(t, d, 2, 2, "a dirty one")
	wantOnDevice(t, d, 1, 101, "still in")
	wantErr(t, p.Evict(0), api.ErrNone, "again")
	wantErr(t, p.Evict(2), api.ErrNone, "again")
	wantPending(t, d, 4, 0, "again")
	do(t, p.Evict(1))
	wantIn(t, p, nil, nil, "all")
	wantPending(t, d, 8, 0, "all")
}

// Po2: the frame of a page that Evict let out is empty: the next one takes it, and none leaves for it.
func TestEvictEmptiesTheFrame(t *testing.T) {
	_, p := open(t, 8, 3)
	for page := range 3 {
		p.Read(page)
	}
	do(t, p.Evict(1))
	p.Read(5)
	wantIn(t, p, []int{0, 2, 5}, nil, "the frame of page 1 is taken")
	p.Read(6)
	wantIn(t, p, []int{2, 5, 6}, nil, "the hand goes round from the first frame on")
	p.Read(7)
	wantIn(t, p, []int{2, 6, 7}, nil, "page 5 has the frame behind that")
}

// Po2: Flush of none, one and many: how many, all of them clean behind it, and still in.
func TestFlush(t *testing.T) {
	for n := 0; n <= 64; n++ {
		d, p := open(t, 64, 64)
		var in, dirty []int
		for page := range 64 {
			in = append(in, page)
			if (page*37+5)%64 < n {
				dirty = append(dirty, page)
				do(t, p.Put(page, pageOf(page), 0))
			} else {
				p.Read(page)
			}
		}
		wantIn(t, p, in, dirty, "ahead of Flush")
		if got := p.Flush(); got != n {
			t.Errorf("Flush of %d: %d", n, got)
		}
		wantIn(t, p, in, nil, "behind Flush")
		wantPending(t, d, 4*n, 0, "behind Flush")
		for page := range 64 {
			if slices.Contains(dirty, page) {
				wantOnDevice(t, d, page, page, "flushed")
				wantRead(t, p, page, page, "flushed")
			} else {
				wantOnDevice(t, d, page, 100+page, "not flushed")
			}
		}
		if got := p.Flush(); got != 0 {
			t.Errorf("Flush behind Flush: %d", got)
		}
		wantPending(t, d, 4*n, 0, "behind Flush again")
	}
}

// Po2: Flush writes rising, in whatever order the pages were put: a crash that keeps one write alone tells which one it is.
func TestFlushRises(t *testing.T) {
	for i := range 20 {
		d, p := open(t, 64, 5)
		for _, page := range []int{40, 3, 63, 0, 17} {
			do(t, p.Put(page, pageOf(page), 0))
		}
		if n := p.Flush(); n != 5 {
			t.Fatalf("Flush of five: %d", n)
		}
		pattern := make([]bool, 20)
		pattern[i] = true
		d.Crash(pattern, 0)
		for page := range 64 {
			want := pageOf(100 + page)
			if page == []int{0, 3, 17, 40, 63}[i/4] {
				copy(want[i%4*128:i%4*128+128], pageOf(page)[i%4*128:])
			}
			if b, _ := d.Read(page); !bytes.Equal(b, want) {
				t.Fatalf("write %d: page %d is another one", i, page)
			}
		}
	}
}

// Po2, Po3: the stream is synced ahead of a page whose place is behind what is synced, and only then; at first that is Base.
func TestSyncAhead(t *testing.T) {
	for _, c := range []struct {
		place  int
		synced bool
	}{
		{math.MinInt, false}, {-1000, false}, {-1, false}, {0, false},
		{1, true}, {2, true}, {4, true}, {5, true}, {6, true}, {1000, true}, {math.MaxInt, true},
	} {
		for _, way := range []string{"Evict", "Flush", "Read", "Put"} {
			of := fmt.Sprintf("place %d, %s", c.place, way)
			d, p := open(t, 3, 1)
			do(t, d.Write(2, pageOf(50)))
			add(t, d, 5)
			do(t, p.Put(0, pageOf(1), c.place))
			wantPending(t, d, 4, 5, of+": nothing is synced till it is written")
			leave(t, p, 0, way)
			if c.synced {
				wantPending(t, d, 4, 0, of)
			} else {
				wantPending(t, d, 8, 5, of)
			}
			wantOnDevice(t, d, 0, 1, of)
			d.Crash(nil, 0)
			wantOnDevice(t, d, 0, 100, of+": the page itself was not synced")
			if _, b := d.Stream(); (len(b) == 5) != c.synced || (len(b) == 0) == c.synced {
				t.Errorf("%s: %d bytes of the stream are there", of, len(b))
			}
		}
	}
}

// leave has a page written: let out, flushed, or for another one (page 1) that is read or put.
func leave(t *testing.T, p *Pool, page int, way string) {
	t.Helper()
	switch way {
	case "Evict":
		do(t, p.Evict(page))
	case "Flush":
		if n := p.Flush(); n != 1 {
			t.Fatalf("Flush of one: %d", n)
		}
	case "Read":
		_, e := p.Read(1)
		do(t, e)
	default:
		do(t, p.Put(1, pageOf(200), 0))
	}
}

// Po2: a clean page that leaves syncs nothing, whatever its place was when it was dirty.
func TestCleanSyncsNothing(t *testing.T) {
	d, p := open(t, 3, 1)
	add(t, d, 5)
	do(t, p.Put(0, pageOf(1), 1000))
	if n := p.Flush(); n != 1 {
		t.Fatalf("Flush of one: %d", n)
	}
	wantPending(t, d, 4, 0, "written and synced ahead")
	add(t, d, 3)
	p.Read(0)
	p.Flush()
	p.Read(1)
	do(t, p.Evict(1))
	wantPending(t, d, 4, 3, "clean ones")
}

// Po2: behind a Sync all of the stream that there was then is synced, not less (its place) and not more (what came later, or a place behind its end).
func TestSyncedBehindSync(t *testing.T) {
	for _, first := range []int{1, 3, 5, 6, 8, 100, math.MaxInt} {
		for _, c := range []struct {
			place  int
			synced bool
		}{
			{math.MinInt, false}, {-1, false}, {0, false}, {1, false}, {2, false}, {4, false}, {5, false},
			{6, true}, {7, true}, {8, true}, {9, true}, {100, true}, {math.MaxInt, true},
		} {
			of := fmt.Sprintf("place %d behind place %d", c.place, first)
			d, p := open(t, 3, 1)
			add(t, d, 5)
			do(t, p.Put(0, pageOf(1), first))
			do(t, p.Evict(0))
			wantPending(t, d, 4, 0, of+": the first one")
			add(t, d, 3)
			do(t, p.Put(1, pageOf(2), c.place))
			do(t, p.Evict(1))
			if c.synced {
				wantPending(t, d, 4, 0, of)
			} else {
				wantPending(t, d, 8, 3, of)
			}
		}
	}
}

// Po2: with no stream at all, a place behind it has the device synced each time.
func TestPlaceBehindNoStream(t *testing.T) {
	d, p := open(t, 3, 1)
	for range 3 {
		do(t, p.Put(0, pageOf(1), 1))
		do(t, p.Evict(0))
		wantPending(t, d, 4, 0, "the write ahead is synced")
	}
	do(t, p.Put(0, pageOf(1), 0))
	do(t, p.Evict(0))
	wantPending(t, d, 8, 0, "place 0")
}

// Po2: the place that counts is that of the last Put, be it more or less.
func TestLastPlaceCounts(t *testing.T) {
	d, p := open(t, 3, 1)
	add(t, d, 5)
	do(t, p.Put(0, pageOf(1), 5))
	do(t, p.Put(0, pageOf(2), 0))
	do(t, p.Evict(0))
	wantPending(t, d, 4, 5, "5, then 0")
	do(t, p.Put(0, pageOf(3), 0))
	do(t, p.Put(0, pageOf(4), 5))
	do(t, p.Evict(0))
	wantPending(t, d, 4, 0, "0, then 5")
	wantOnDevice(t, d, 0, 4, "the last one")
}

// Po2: each page has a place of its own; in one Flush one Sync may be enough, and comes where the first page asks for it.
func TestFlushSyncs(t *testing.T) {
	for _, c := range []struct {
		places         [3]int
		sectors, units int
	}{
		{[3]int{0, 0, 0}, 12, 5},
		{[3]int{1, 0, 0}, 12, 0},
		{[3]int{0, 1, 0}, 8, 0},
		{[3]int{0, 0, 1}, 4, 0},
		{[3]int{1, 2, 3}, 12, 0},
		{[3]int{5, 5, 5}, 12, 0},
		{[3]int{3, 2, 1}, 12, 0},
		{[3]int{0, 1, 5}, 8, 0},
		{[3]int{6, 0, 0}, 12, 0},
		{[3]int{6, 6, 0}, 8, 0},
		{[3]int{6, 6, 6}, 4, 0},
		{[3]int{1, 5, 6}, 4, 0},
		{[3]int{-1, 5, 6}, 4, 0},
		{[3]int{6, 5, 1}, 12, 0},
	} {
		d, p := open(t, 3, 3)
		add(t, d, 5)
		for _, page := range []int{1, 2, 0} {
			do(t, p.Put(page, pageOf(page), c.places[page]))
		}
		if n := p.Flush(); n != 3 {
			t.Fatalf("Flush of three: %d", n)
		}
		wantPending(t, d, c.sectors, c.units, fmt.Sprintf("places %v", c.places))
	}
}

// Po2: Synced says that all of the stream that there is is synced: no Sync then; what comes later is not, and what somebody synced without a word is not known.
func TestSynced(t *testing.T) {
	for _, c := range []struct {
		place          int
		told           bool
		sectors, units int
	}{
		{-1, true, 8, 3}, {0, true, 8, 3}, {1, true, 8, 3}, {4, true, 8, 3}, {5, true, 8, 3},
		{6, true, 4, 0}, {8, true, 4, 0}, {9, true, 4, 0}, {math.MaxInt, true, 4, 0},
		{-1, false, 8, 3}, {0, false, 8, 3}, {1, false, 4, 0}, {5, false, 4, 0}, {6, false, 4, 0}, {9, false, 4, 0},
	} {
		d, p := open(t, 3, 1)
		add(t, d, 5)
		d.Sync()
		if c.told {
			p.Synced()
		}
		do(t, d.Write(2, pageOf(9)))
		add(t, d, 3)
		do(t, p.Put(0, pageOf(1), c.place))
		do(t, p.Evict(0))
		wantPending(t, d, c.sectors, c.units, fmt.Sprintf("place %d, told %v", c.place, c.told))
	}
}

// Po2: Synced is believed, whether somebody called the device's Sync or not; it syncs nothing itself, and lets pages be.
func TestSyncedIsBelieved(t *testing.T) {
	d, p := open(t, 3, 2)
	add(t, d, 5)
	do(t, p.Put(0, pageOf(1), 5))
	p.Read(1)
	was := look(d)
	p.Synced()
	p.Synced()
	if look(d) != was {
		t.Error("Synced changed the device")
	}
	wantIn(t, p, []int{0, 1}, []int{0}, "behind Synced")
	do(t, p.Evict(0))
	wantPending(t, d, 4, 5, "no Sync then")
}

// Po2: with a stream that was trimmed ahead of New what is synced is its Base at first, and places go on from there.
func TestBase(t *testing.T) {
	for _, synced := range []bool{false, true} {
		for _, c := range []struct {
			place  int
			synced bool
		}{{math.MinInt, false}, {-1, false}, {0, false}, {3, false}, {4, false}, {5, true}, {6, true}, {9, true}, {10, true}, {11, true}} {
			of := fmt.Sprintf("Base 4, synced %v, place %d", synced, c.place)
			d := disk(t, 3)
			add(t, d, 10)
			do(t, d.Trim(4))
			units := 11
			if synced {
				d.Sync()
				units = 0
			}
			p, e := New(d, 1)
			do(t, e)
			do(t, d.Write(2, pageOf(9)))
			do(t, p.Put(0, pageOf(1), c.place))
			do(t, p.Evict(0))
			if !c.synced {
				wantPending(t, d, 8, units, of)
				continue
			}
			wantPending(t, d, 4, 0, of)
			add(t, d, 2)
			do(t, p.Put(0, pageOf(2), 10))
			do(t, p.Evict(0))
			wantPending(t, d, 8, 2, of+", then the stream's end as it was")
			do(t, p.Put(0, pageOf(3), 11))
			do(t, p.Evict(0))
			wantPending(t, d, 4, 0, of+", then one more")
		}
	}
}

// Po2: Synced of a stream that was trimmed, in part and all of it, is the place behind its end.
func TestSyncedOfTrimmed(t *testing.T) {
	for _, at := range []int{0, 1, 7, 10} {
		d, p := open(t, 3, 1)
		add(t, d, 10)
		do(t, d.Trim(at))
		d.Sync()
		p.Synced()
		add(t, d, 3)
		do(t, p.Put(0, pageOf(1), 10))
		do(t, p.Evict(0))
		wantPending(t, d, 4, 3, "place 10")
		do(t, p.Put(0, pageOf(1), 11))
		do(t, p.Evict(0))
		wantPending(t, d, 4, 0, "place 11")
	}
}

// Po2: what is synced is the stream's end as it is at the last Sync: behind a crash that may be less than it was.
func TestSyncedFalls(t *testing.T) {
	d, p := open(t, 3, 1)
	add(t, d, 9)
	p.Synced()
	d.Crash(nil, 4)
	add(t, d, 1)
	p.Synced()
	do(t, p.Put(0, pageOf(1), 5))
	do(t, p.Evict(0))
	wantPending(t, d, 4, 1, "place 5")
	do(t, p.Put(0, pageOf(1), 6))
	do(t, p.Evict(0))
	wantPending(t, d, 4, 0, "place 6")

	add(t, d, 9)
	p.Synced()
	d.Crash(nil, 0)
	do(t, p.Put(0, pageOf(1), 100))
	do(t, p.Evict(0))
	add(t, d, 1)
	do(t, p.Put(0, pageOf(1), 6))
	do(t, p.Evict(0))
	wantPending(t, d, 4, 0, "place 6 again: it was not there at the last Sync")
}

// Po2: pages leave in the clock's order: with one frame each for the next, with many the first one that was not used lately.
func TestClockOrder(t *testing.T) {
	_, p := open(t, 8, 3)
	for i, c := range []struct {
		put, page int
		in        []int
	}{
		{0, 0, []int{0}}, {1, 1, []int{0, 1}}, {0, 2, []int{0, 1, 2}},
		{1, 3, []int{1, 2, 3}}, // all used: the hand goes round once, and takes the first frame
		{0, 1, []int{1, 2, 3}}, // used again
		{0, 4, []int{1, 3, 4}}, // so it is spared
		{1, 5, []int{3, 4, 5}}, // but not again: 3 is used, and passed, and 1 is not any more
		{0, 3, []int{3, 4, 5}}, // used again
		{1, 6, []int{3, 5, 6}}, // all used: round once more, to where the hand stood
		{1, 7, []int{5, 6, 7}},
		{0, 0, []int{0, 6, 7}},
	} {
		if c.put == 1 {
			do(t, p.Put(c.page, pageOf(c.page), 0))
		} else {
			_, e := p.Read(c.page)
			do(t, e)
		}
		if got := p.In(); !slices.Equal(got, c.in) {
			t.Fatalf("step %d, page %d: In = %v, want %v", i, c.page, got, c.in)
		}
	}
}

// Po2: with one frame each page leaves for the next one, and all that is dirty is written then.
func TestOneFrame(t *testing.T) {
	d, p := open(t, 64, 1)
	for page := range 64 {
		do(t, p.Put(page, pageOf(page), 0))
		wantIn(t, p, []int{page}, []int{page}, "one frame")
		wantPending(t, d, 4*page, 0, "all but the last one are written")
	}
	for page := range 64 {
		wantRead(t, p, page, page, "as it was put")
		wantIn(t, p, []int{page}, nil, "one frame")
	}
	wantPending(t, d, 256, 0, "each was written once")
}

// Po2: with as many frames as pages none ever leaves by itself.
func TestManyFrames(t *testing.T) {
	d, p := open(t, 64, 64)
	for i := range 640 {
		do(t, p.Put(i*37%64, pageOf(i), 1000))
	}
	wantPending(t, d, 0, 0, "nothing is written")
	for i := 576; i < 640; i++ {
		wantRead(t, p, i*37%64, i, "as it was put last")
	}
}

// Po2, Po3: a power that goes in mid-write: of the page just the sectors that were of account are there, and nothing that comes later; the pool goes on as if nothing were.
func TestPowerGoes(t *testing.T) {
	for n := range 10 {
		d, p := open(t, 3, 2)
		do(t, p.Put(0, pageOf(1), 0))
		do(t, p.Put(1, pageOf(2), 0))
		d.Arm(n)
		if got := p.Flush(); got != 2 {
			t.Fatalf("armed with %d: Flush: %d", n, got)
		}
		if d.Gone() != (n < 8) {
			t.Errorf("armed with %d: Gone = %v", n, d.Gone())
		}
		wantIn(t, p, []int{0, 1}, nil, "behind the fall")
		wantPending(t, d, min(n, 8), 0, "behind the fall")
		wantRead(t, p, 0, 1, "behind the fall")
		do(t, p.Put(0, pageOf(3), 9))
		wantRead(t, p, 0, 3, "put behind the fall")
		if n < 8 {
			do(t, p.Evict(0))
			wantOnDevice(t, d, 0, 3, "seen, but of no account")
			wantPending(t, d, min(n, 8), 0, "what comes later is of no account")
		}
		d.Crash([]bool{true}, 0)
		for page := range 2 {
			want := pageOf(100 + page)
			copy(want, pageOf(1 + page)[:128*min(max(n-4*page, 0), 4)])
			if b, _ := d.Read(page); !bytes.Equal(b, want) {
				t.Errorf("armed with %d: page %d is another one", n, page)
			}
		}
	}
}

// Po3: where the power goes ahead of the Sync, neither the Sync nor the page that waited for it is of account.
func TestPowerGoesAheadOfSync(t *testing.T) {
	d, p := open(t, 3, 1)
	d.Arm(3)
	add(t, d, 5)
	do(t, p.Put(0, pageOf(1), 5))
	do(t, p.Evict(0))
	wantPending(t, d, 0, 3, "gone")
	wantRead(t, p, 0, 1, "seen still")
	d.Crash([]bool{true}, 100)
	wantOnDevice(t, d, 0, 100, "behind the crash")
	if _, b := d.Stream(); len(b) != 3 {
		t.Errorf("%d bytes of the stream are there", len(b))
	}
}

// stamped is a page whose sectors each begin with a place.
func stamped(place int) []byte {
	b := make([]byte, 512)
	for i := range 4 {
		for k := range 4 {
			b[i*128+k] = byte(place >> (8 * k))
		}
	}
	return b
}

func stampOf(sector []byte) int {
	return int(sector[0]) | int(sector[1])<<8 | int(sector[2])<<16 | int(sector[3])<<24
}

// Po3: no page is ahead of the stream behind a crash, whatever of the sectors' writes and of the stream's units is kept, and wherever the power went.
func TestNoPageAheadOfTheStream(t *testing.T) {
	r := rand.New(rand.NewPCG(12, 3))
	kept, lost := 0, 0
	for round := range 4000 {
		n := 1 + r.IntN(4)
		d, e := device.New(n)
		do(t, e)
		p, e := New(d, 1+r.IntN(4))
		do(t, e)
		if r.IntN(2) == 0 {
			d.Arm(r.IntN(60))
		}
		for range r.IntN(40) {
			strew(t, r, d, p)
		}
		before := look(d)
		pattern := make([]bool, r.IntN(6))
		for i := range pattern {
			pattern[i] = r.IntN(3) > 0
		}
		d.Crash(pattern, r.IntN(30)-2)
		base, stream := d.Stream()
		for page := range n {
			b, e := d.Read(page)
			do(t, e)
			for s := range slices.Chunk(b, 128) {
				if at := stampOf(s); at > base+len(stream) {
					t.Fatalf("round %d: page %d is of place %d, and the stream ends at %d", round, page, at, base+len(stream))
				} else if at > 0 {
					kept++
				}
			}
		}
		if look(d) != before {
			lost++
		}
	}
	if kept < 1000 || lost < 1000 {
		t.Errorf("too few to tell: %d sectors kept, %d crashes that lost something", kept, lost)
	}
}

// strew is a step as those above the pool take it: a page is put with the place behind what the stream has then.
func strew(t *testing.T, r *rand.Rand, d *device.Device, p *Pool) {
	t.Helper()
	page := r.IntN(d.Pages())
	base, stream := d.Stream()
	switch r.IntN(12) {
	case 0:
		d.Sync()
		p.Synced()
	case 1:
		d.Sync()
	case 2:
		p.Flush()
	case 3:
		p.Evict(page)
	case 4, 5:
		_, e := p.Read(page)
		do(t, e)
	case 6:
		if r.IntN(4) == 0 {
			p.Flush()
			d.Sync()
			p.Synced()
			do(t, d.Trim(base+len(stream)))
		}
	default:
		k := r.IntN(4)
		add(t, d, k)
		do(t, p.Put(page, stamped(base+len(stream)+k), base+len(stream)+k))
	}
}

// Po3: what is read is what was put last, or what the device has, over strewn calls, with frames of all numbers.
func TestReadIsLastPut(t *testing.T) {
	r := rand.New(rand.NewPCG(12, 4))
	for frames := 1; frames <= 64; frames++ {
		d, p := open(t, 64, frames)
		last := map[int]int{}
		for page := range 64 {
			last[page] = 100 + page
		}
		for range 600 {
			page := r.IntN(64)
			switch r.IntN(8) {
			case 0, 1, 2:
				tag := r.IntN(256)
				do(t, p.Put(page, pageOf(tag), r.IntN(30)-5))
				last[page] = tag
			case 3:
				p.Evict(page)
			case 4:
				if r.IntN(20) == 0 {
					p.Flush()
				}
				add(t, d, r.IntN(3))
			default:
				wantRead(t, p, page, last[page], "strewn")
			}
		}
		p.Flush()
		for page := range 64 {
			wantOnDevice(t, d, page, last[page], "flushed")
			wantRead(t, p, page, last[page], "flushed")
		}
	}
}

// step is a call on a pool and its device; it tells what was answered.
type step func(p pages, d *device.Device) string

func readStep(page int) step {
	return func(p pages, d *device.Device) string {
		b, e := p.Read(page)
		return fmt.Sprintf("Read(%d) = %x, %d", page, b, e)
	}
}

// putStep has its place counted from the stream's end.
func putStep(page, tag, size, behind int) step {
	return func(p pages, d *device.Device) string {
		base, stream := d.Stream()
		b := append(pageOf(tag), 1, 2, 3)[:size]
		place := base + len(stream) + behind
		return fmt.Sprintf("Put(%d, tag %d, %d bytes, %d) = %d", page, tag, size, place, p.Put(page, b, place))
	}
}

func evictStep(page int) step {
	return func(p pages, d *device.Device) string { return fmt.Sprintf("Evict(%d) = %d", page, p.Evict(page)) }
}

func flushStep(p pages, d *device.Device) string { return fmt.Sprintf("Flush = %d", p.Flush()) }

func syncedStep(p pages, d *device.Device) string { p.Synced(); return "Synced" }

func syncStep(p pages, d *device.Device) string { d.Sync(); return "Sync" }

func appendStep(n int) step {
	return func(p pages, d *device.Device) string {
		return fmt.Sprintf("Append(%d bytes) = %d", n, d.Append(bytes.Repeat([]byte{byte(n)}, n)))
	}
}

func trimStep(p pages, d *device.Device) string {
	base, stream := d.Stream()
	return fmt.Sprintf("Trim = %d", d.Trim(base+len(stream)/2))
}

func writeStep(page, tag int) step {
	return func(p pages, d *device.Device) string {
		return fmt.Sprintf("Write(%d, tag %d) = %d", page, tag, d.Write(page, pageOf(tag)))
	}
}

func armStep(n int) step {
	return func(p pages, d *device.Device) string { d.Arm(n); return fmt.Sprintf("Arm(%d)", n) }
}

func crashStep(pattern []bool, units int) step {
	return func(p pages, d *device.Device) string {
		d.Crash(pattern, units)
		return fmt.Sprintf("Crash(%v, %d)", pattern, units)
	}
}

// pair is a pool and one on paper, over devices that are alike.
type pair struct {
	p    *Pool
	d    *device.Device
	w    *paper
	said []string
}

func pairOf(t *testing.T, pages, frames, stream int) *pair {
	t.Helper()
	x := &pair{d: disk(t, pages)}
	add(t, x.d, stream)
	do(t, x.d.Trim(stream/2))
	twin := disk(t, pages)
	add(t, twin, stream)
	do(t, twin.Trim(stream/2))
	x.w = paperOf(twin, frames)
	p, e := New(x.d, frames)
	do(t, e)
	x.p = p
	return x
}

// do takes a step on both, and holds all that is told against each other.
func (x *pair) do(t *testing.T, s step) string {
	t.Helper()
	got, want := s(x.p, x.d), s(x.w, x.w.d)
	x.said = append(x.said, want)
	if got != want {
		t.Fatalf("%v:\ngot  %.300s\nwant %.300s", x.said, got, want)
	}
	if a, b := x.p.In(), x.w.In(); !slices.Equal(a, b) {
		t.Fatalf("%v: In = %v, want %v", x.said, a, b)
	}
	if a, b := x.p.Dirty(), x.w.Dirty(); !slices.Equal(a, b) {
		t.Fatalf("%v: Dirty = %v, want %v", x.said, a, b)
	}
	sectors, units := x.w.d.Pending()
	wantPending(t, x.d, sectors, units, fmt.Sprint(x.said))
	return want
}

// wantAlike holds the devices against each other, as they are, and behind a crash.
func (x *pair) wantAlike(t *testing.T, pattern []bool, units int) {
	t.Helper()
	if look(x.d) != look(x.w.d) {
		t.Fatalf("%v: the devices are not alike", x.said)
	}
	x.d.Crash(pattern, units)
	x.w.d.Crash(pattern, units)
	if look(x.d) != look(x.w.d) {
		t.Fatalf("%v: the devices are not alike behind a crash", x.said)
	}
}

// Po1, Po2: all rows of four calls out of a few, with one frame and with two, are held against the chapter's words.
func TestAllShortRows(t *testing.T) {
	steps := []step{
		readStep(0), readStep(1), readStep(2), readStep(3),
		putStep(0, 1, 512, 0), putStep(1, 2, 512, -1), putStep(2, 3, 512, 1), putStep(0, 4, 511, 0),
		evictStep(0), evictStep(1), flushStep, syncedStep, appendStep(1),
	}
	for frames := 1; frames <= 2; frames++ {
		row := make([]int, 4)
		for {
			x := pairOf(t, 3, frames, 2)
			for _, i := range row {
				x.do(t, steps[i])
			}
			x.wantAlike(t, []bool{true, false, true}, 1)
			if !next(row, len(steps)) {
				break
			}
		}
	}
}

// next counts a row of numbers below n up; false: that was the last one.
func next(row []int, n int) bool {
	for i := range row {
		row[i]++
		if row[i] < n {
			return true
		}
		row[i] = 0
	}
	return false
}

// anyStep is a step out of all kinds, on a device of so many pages.
func anyStep(r *rand.Rand, n int) step {
	page := r.IntN(n)
	if r.IntN(20) == 0 {
		page = []int{-1, n, math.MinInt, math.MaxInt, 64}[r.IntN(5)]
	}
	size := 512
	if r.IntN(20) == 0 {
		size = []int{0, 1, 511, 513}[r.IntN(4)]
	}
	switch k := r.IntN(100); {
	case k < 20:
		return readStep(page)
	case k < 55:
		return putStep(page, r.IntN(256), size, r.IntN(9)-5)
	case k < 65:
		return evictStep(page)
	case k < 68:
		return flushStep
	case k < 72:
		return syncedStep
	case k < 75:
		return syncStep
	case k < 93:
		return appendStep(r.IntN(4))
	case k < 95:
		return trimStep
	case k < 97:
		return writeStep(page, r.IntN(256))
	case k < 99:
		return armStep(r.IntN(40) - 3)
	default:
		return crashStep([]bool{r.IntN(2) == 0, r.IntN(2) == 0, true}, r.IntN(9)-1)
	}
}

// Po1, Po2: strewn rows of calls, on the pool and on its device, are held against the chapter's words.
func TestStrewnRows(t *testing.T) {
	r := rand.New(rand.NewPCG(12, 5))
	told := map[string]int{}
	for range 1500 {
		n := 1 + r.IntN(8)
		if r.IntN(10) == 0 {
			n = 64
		}
		x := pairOf(t, n, 1+r.IntN(min(n+1, 12)), r.IntN(8))
		for range 10 + r.IntN(70) {
			dirty, in := len(x.w.Dirty()), len(x.w.In())
			was := x.w.synced
			said := x.do(t, anyStep(r, n))
			told[said[:4]+said[len(said)-3:]]++
			if x.w.synced != was && said != "Synced" {
				told["a Sync ahead of a page"]++
			}
			if len(x.w.In()) == in && len(x.w.Dirty()) < dirty {
				told["a dirty page that left, or was flushed"]++
			}
		}
		x.wantAlike(t, []bool{true, r.IntN(2) == 0, false}, r.IntN(20))
	}
	for _, s := range []string{"Read, 0", "Read, 3", "Put(= 0", "Put(= 1", "Put(= 3", "Evic= 0", "Evic= 3", "a Sync ahead of a page", "a dirty page that left, or was flushed"} {
		if told[s] < 300 {
			t.Errorf("%s: %d: too few to tell", s, told[s])
		}
	}
}

// The chapter's example: one frame, Put 0, Put 1: page 0 is written.
func TestExample(t *testing.T) {
	d, p := open(t, 2, 1)
	do(t, p.Put(0, pageOf(1), 0))
	wantPending(t, d, 0, 0, "Put 0")
	do(t, p.Put(1, pageOf(2), 0))
	wantPending(t, d, 4, 0, "Put 1")
	wantOnDevice(t, d, 0, 1, "Put 1")
	wantOnDevice(t, d, 1, 101, "Put 1")
	wantIn(t, p, []int{1}, []int{1}, "Put 1")
}

// R1: of a pool that New did not give: ErrNone, nothing; and it stays so.
func TestOfNoPool(t *testing.T) {
	made, _ := New(nil, 1)
	for name, p := range map[string]*Pool{"nil": nil, "zero": {}, "what New gave beside an error": made} {
		for range 2 {
			for _, page := range []int{-1, 0, 1, 63, 64, math.MinInt, math.MaxInt} {
				if b, e := p.Read(page); len(b) != 0 || e != api.ErrNone {
					t.Errorf("%s: Read(%d): %d bytes, error %d", name, page, len(b), e)
				}
				for _, size := range []int{0, 511, 512, 513} {
					wantErr(t, p.Put(page, make([]byte, size), 1), api.ErrNone, name+": Put")
				}
				wantErr(t, p.Put(page, nil, 0), api.ErrNone, name+": Put of nil")
				wantErr(t, p.Evict(page), api.ErrNone, name+": Evict")
			}
			if n := p.Flush(); n != 0 {
				t.Errorf("%s: Flush: %d", name, n)
			}
			p.Synced()
			wantIn(t, p, nil, nil, name)
		}
	}
}

// R1: a pool whose device is gone from under it ends its calls all the same.
func TestDeviceTakenAway(t *testing.T) {
	d, p := open(t, 4, 2)
	do(t, p.Put(0, pageOf(1), 5))
	p.Read(1)
	*d = device.Device{}
	for page := -1; page < 5; page++ {
		p.Read(page)
		p.Put(page, pageOf(2), 9)
	}
	p.Flush()
	p.Synced()
	p.Evict(0)
	p.Evict(1)
	wantIn(t, p, nil, nil, "all let out")
}

// R3: what is handed in is not changed, with the room behind its end, and not kept.
func TestPutKeepsNothing(t *testing.T) {
	d, p := open(t, 3, 1)
	room := append(pageOf(1), pageOf(2)...)
	do(t, p.Put(0, room[:512], 0))
	wantRead(t, p, 0, 1, "put")
	do(t, p.Put(0, room[:512], 0))
	clear(room)
	wantRead(t, p, 0, 1, "behind the list's being cleared")
	do(t, p.Evict(0))
	wantOnDevice(t, d, 0, 1, "behind the list's being cleared")

	room = append(pageOf(3), pageOf(4)...)
	want := slices.Clone(room)
	do(t, p.Put(0, room[:512], 5))
	p.Read(0)
	p.Flush()
	p.Read(1)
	p.Read(0)
	do(t, p.Put(0, pageOf(9), 5))
	do(t, p.Evict(0))
	wantErr(t, p.Put(1, room[:511], 5), api.ErrArg, "511 bytes")
	wantErr(t, p.Put(7, room[:512], 5), api.ErrNone, "page 7")
	if !bytes.Equal(room, want) {
		t.Error("what was handed in has changed")
	}
}

// spoil writes over a list, its spare room too.
func spoil[T any](l []T, x T) {
	l = l[:cap(l)]
	for i := range l {
		l[i] = x
	}
}

// R3: an answer shares no memory with the pool, with the device, or with another answer.
func TestAnswersAreNew(t *testing.T) {
	d, p := open(t, 4, 3)
	do(t, p.Put(1, pageOf(1), 0))
	for _, c := range []struct{ page, tag int }{{0, 100}, {1, 1}} {
		for range 3 {
			a, _ := p.Read(c.page)
			b, _ := p.Read(c.page)
			spoil(a, 0xEE)
			if !bytes.Equal(b, pageOf(c.tag)) {
				t.Fatalf("page %d: two answers share memory", c.page)
			}
			spoil(b, 0xDD)
			wantRead(t, p, c.page, c.tag, "spoilt answers")
		}
	}
	wantOnDevice(t, d, 0, 100, "spoilt answers")
	if n := p.Flush(); n != 1 {
		t.Fatalf("Flush of one: %d", n)
	}
	wantOnDevice(t, d, 1, 1, "spoilt answers")
	b, _ := p.Read(1)
	spoil(b, 0xCC)
	wantOnDevice(t, d, 1, 1, "spoilt behind the writing")
	wantRead(t, p, 1, 1, "spoilt behind the writing")

	do(t, p.Put(2, pageOf(2), 0))
	do(t, p.Put(0, pageOf(3), 0))
	for range 2 {
		in, dirty := p.In(), p.Dirty()
		spoil(in, 77)
		if !slices.Equal(dirty, []int{0, 2}) {
			t.Fatalf("Dirty = %v: it shares memory with In", dirty)
		}
		spoil(dirty, 88)
		wantIn(t, p, []int{0, 1, 2}, []int{0, 2}, "spoilt lists")
	}
	if n := p.Flush(); n != 2 {
		t.Errorf("Flush of two: %d", n)
	}
}

// R3: what is read from the device is the pool's own: what is written over there later does not show.
func TestDeviceSharesNothing(t *testing.T) {
	d, p := open(t, 2, 2)
	wantRead(t, p, 0, 100, "read")
	do(t, p.Put(1, pageOf(1), 0))
	p.Flush()
	do(t, d.Write(0, pageOf(8)))
	do(t, d.Write(1, pageOf(9)))
	wantRead(t, p, 0, 100, "written over on the device")
	wantRead(t, p, 1, 1, "written over on the device")
	do(t, p.Put(1, pageOf(2), 0))
	wantOnDevice(t, d, 1, 9, "put, not written")
}

// R4: two pools on which the same is called tell the same, and neither knows of the other.
func TestAgain(t *testing.T) {
	run := func(seed uint64) string {
		r := rand.New(rand.NewPCG(12, seed))
		d, p := open(t, 16, 4)
		_, other := open(t, 16, 2)
		s := ""
		for range 200 {
			s += anyStep(r, 16)(p, d)
			s += fmt.Sprint(p.In(), p.Dirty())
			other.Put(r.IntN(16), pageOf(3), r.IntN(5))
		}
		return s + look(d)
	}
	for seed := range uint64(20) {
		if run(seed) != run(seed) {
			t.Fatalf("seed %d: another answer", seed)
		}
	}
}

// R4: two pools over one device each have pages of their own.
func TestTwoPools(t *testing.T) {
	d, p := open(t, 3, 2)
	q, e := New(d, 1)
	do(t, e)
	do(t, p.Put(0, pageOf(1), 0))
	wantRead(t, q, 0, 100, "not written yet")
	wantIn(t, p, []int{0}, []int{0}, "the one")
	wantIn(t, q, []int{0}, nil, "the other")
	p.Flush()
	wantRead(t, q, 0, 100, "in")
	do(t, q.Evict(0))
	wantRead(t, q, 0, 1, "in anew")
}
