package zone

import (
	"fmt"
	"math"
	"reflect"
	"slices"
	"strings"
	"testing"

	"saltern/api"
	"saltern/plain"
)

// The heads are given: this does not build with others.
var (
	_ func() *Device                                 = New
	_ func(*Device, int) (int, error)                = (*Device).At
	_ func(*Device, int, string) (int, error)        = (*Device).Append
	_ func(*Device, int) error                       = (*Device).Reset
	_ func(d *Device, zone, off int) (string, error) = (*Device).Read
	_ func(*Device, int, string) error               = (*Device).Put
	_ func(*Device, int) (string, error)             = (*Device).Get
	_ func(*Device) error                            = (*Device).Sync
	_ func(*Device, int)                             = (*Device).Fuse
	_ func(*Device, []int, []bool)                   = (*Device).Crash
	_ func(*Device) api.Image                        = (*Device).Image
	_ func(*Device, api.Image)                       = (*Device).Lay
)

// Numbers that no zone, and no slot, has.
var (
	noZones = []int{-1, -2, math.MinInt, api.Zones, api.Zones + 1, math.MaxInt, 1 << 32}
	noSlots = []int{-1, -2, math.MinInt, 2, 3, math.MaxInt, 1 << 32}
)

// block is a text with 0 behind it, as long as a block.
func block(s string) string { return s + strings.Repeat("\x00", 128-len(s)) }

// slot is a text with 0 behind it, as long as a slot.
func slot(s string) string { return s + strings.Repeat("\x00", 500-len(s)) }

// long is a text of so many bytes, of which neighbours differ, and none is 0.
func long(size int) string {
	out := make([]byte, size)
	for i := range out {
		out[i] = byte(1 + i*7%255)
	}
	return string(out)
}

// must holds an error to be the one that is asked for, in its plain form.
func must(t *testing.T, what string, err error, want api.Errno) {
	t.Helper()
	if e, place := plain.Place(err); e != want || place != -1 {
		t.Errorf("%s: error %v (place %d), not %v", what, err, place, want)
	}
}

// appended appends texts, of which each must be the next block.
func appended(t *testing.T, d *Device, zone int, texts ...string) {
	t.Helper()
	at, err := d.At(zone)
	must(t, "At", err, api.OK)
	for i, s := range texts {
		n, err := d.Append(zone, s)
		must(t, "Append", err, api.OK)
		if n != at+i {
			t.Errorf("Append to zone %d told block %d, not %d", zone, n, at+i)
		}
	}
}

// written puts texts into a slot.
func written(t *testing.T, d *Device, slot int, texts ...string) {
	t.Helper()
	for _, s := range texts {
		must(t, "Put", d.Put(slot, s), api.OK)
	}
}

func synced(t *testing.T, d *Device) {
	t.Helper()
	must(t, "Sync", d.Sync(), api.OK)
}

// image is an image of texts that have no 0 behind them yet.
func image(zones map[int][]string, slots ...string) api.Image {
	var m api.Image
	for z, texts := range zones {
		for _, s := range texts {
			m.Zones[z] = append(m.Zones[z], block(s))
		}
	}
	for i := range m.Slots {
		if i < len(slots) {
			m.Slots[i] = slot(slots[i])
		} else {
			m.Slots[i] = slot("")
		}
	}
	return m
}

// sameImage: an empty list may be nil or not.
func sameImage(a, b api.Image) bool {
	for z := range a.Zones {
		if !slices.Equal(a.Zones[z], b.Zones[z]) {
			return false
		}
	}
	return a.Slots == b.Slots
}

// sure holds Image to what is asked for.
func sure(t *testing.T, what string, d *Device, want api.Image) {
	t.Helper()
	if got := d.Image(); !sameImage(got, want) {
		t.Errorf("%s: the image is %q, not %q", what, got, want)
	}
}

// seen is all that At, Read and Get tell, laid out as an image.
func seen(t *testing.T, d *Device) api.Image {
	t.Helper()
	var m api.Image
	for z := range m.Zones {
		n, err := d.At(z)
		must(t, "At", err, api.OK)
		for off := range n {
			s, err := d.Read(z, off)
			must(t, "Read", err, api.OK)
			m.Zones[z] = append(m.Zones[z], s)
		}
		for _, off := range []int{-1, math.MinInt, n, n + 1, math.MaxInt} {
			s, err := d.Read(z, off)
			must(t, "Read of no block", err, api.ErrMissing)
			if s != "" {
				t.Errorf("Read of zone %d, block %d of %d: %q beside an error", z, off, n, s)
			}
		}
	}
	for i := range m.Slots {
		s, err := d.Get(i)
		must(t, "Get", err, api.OK)
		m.Slots[i] = s
	}
	return m
}

// shows holds At, Read and Get to what is asked for.
func shows(t *testing.T, what string, d *Device, want api.Image) {
	t.Helper()
	if got := seen(t, d); !sameImage(got, want) {
		t.Errorf("%s: there is %q, not %q", what, got, want)
	}
}

// allSure holds all that there is, and all that is sure, to one image.
func allSure(t *testing.T, what string, d *Device, want api.Image) {
	t.Helper()
	shows(t, what, d, want)
	sure(t, what, d, want)
}

// TestNew: 3.1, a new device; and P1, a device that is its zero value.
func TestNew(t *testing.T) {
	for _, d := range []*Device{New(), {}, new(Device)} {
		allSure(t, "at first", d, image(nil))
		for range 100 {
			synced(t, d)
		}
		appended(t, d, 0, "a")
		allSure(t, "another one", New(), image(nil))
	}
}

// TestRange: 3.1, ErrRange at each call of zones and slots that are not there, ahead of every other error, nothing beside it, and nothing is done.
func TestRange(t *testing.T) {
	for _, fuse := range []int{-1, 0, 5} {
		d := New()
		d.Fuse(fuse)
		for _, z := range noZones {
			n, err := d.At(z)
			must(t, "At", err, api.ErrRange)
			for _, s := range []string{"", "a", long(129), long(1000)} {
				b, err := d.Append(z, s)
				must(t, "Append", err, api.ErrRange)
				n += b
			}
			must(t, "Reset", d.Reset(z), api.ErrRange)
			for _, off := range []int{-1, 0, 1} {
				s, err := d.Read(z, off)
				must(t, "Read", err, api.ErrRange)
				n += len(s)
			}
			if n != 0 {
				t.Errorf("zone %d: something stands beside an error", z)
			}
		}
		for _, i := range noSlots {
			for _, s := range []string{"", "a", long(501), long(1000)} {
				must(t, "Put", d.Put(i, s), api.ErrRange)
			}
			s, err := d.Get(i)
			must(t, "Get", err, api.ErrRange)
			if s != "" {
				t.Errorf("slot %d: %q beside an error", i, s)
			}
		}
		allSure(t, "behind errors", d, image(nil))
		left(t, d, fuse)
	}
}

// left holds a fuse to let so many calls be done yet (below 0: more than any fuse here).
func left(t *testing.T, d *Device, want int) {
	t.Helper()
	got := 0
	for got < 50 && d.Sync() == nil {
		got++
	}
	if want < 0 {
		want = 50
	}
	if got != want {
		t.Errorf("the fuse let %d calls be done, not %d", got, want)
	}
}

// TestBlocks: 3.1, blocks of all sizes, in all zones, are read as they were written, with 0 behind them; each zone is for itself.
func TestBlocks(t *testing.T) {
	d := New()
	want := map[int][]string{}
	for z := range 8 {
		for i := range 16 - z {
			s := long(128 - i*8 - z)
			appended(t, d, z, s)
			want[z] = append(want[z], s)
			shows(t, "behind an Append", d, image(want))
		}
	}
	sure(t, "ahead of Sync", d, image(nil))
	synced(t, d)
	allSure(t, "behind Sync", d, image(want))
}

// TestBlockSizes: 3.1, ErrLimit from Block + 1 bytes on.
func TestBlockSizes(t *testing.T) {
	for size := range 300 {
		d := New()
		s := long(size)
		n, err := d.Append(3, s)
		if size > 128 {
			must(t, fmt.Sprint("Append of ", size), err, api.ErrLimit)
			shows(t, "behind ErrLimit", d, image(nil))
		} else {
			must(t, fmt.Sprint("Append of ", size), err, api.OK)
			shows(t, "behind Append", d, image(map[int][]string{3: {s}}))
		}
		if n != 0 {
			t.Errorf("Append of %d bytes told %d", size, n)
		}
	}
}

// TestSlotSizes: 3.1, ErrLimit from Slot + 1 bytes on; a slot of a shorter text has nothing of the longer one ahead of it.
func TestSlotSizes(t *testing.T) {
	d := New()
	last := ""
	for size := 700; size >= 0; size-- {
		s := long(size)
		err := d.Put(size%2, s)
		want := api.OK
		if size > 500 {
			want, s = api.ErrLimit, ""
		}
		must(t, fmt.Sprint("Put of ", size), err, want)
		slots := []string{s, last}
		if size%2 == 1 {
			slots = []string{last, s}
		}
		shows(t, "behind Put", d, image(nil, slots...))
		last = s
	}
	sure(t, "ahead of Sync", d, image(nil))
}

// TestFull: 3.1, a zone has Cap blocks at most, sure or not; others have room then; emptied it has room again.
func TestFull(t *testing.T) {
	for _, between := range []int{1, 4, 16, 17} {
		d := New()
		for i := range 16 {
			appended(t, d, 7, fmt.Sprint(i))
			if i%between == between-1 {
				synced(t, d)
			}
		}
		was, wasSure := seen(t, d), d.Image()
		for _, s := range []string{"", "a", long(128)} {
			n, err := d.Append(7, s)
			must(t, "Append to a full zone", err, api.ErrFull)
			if n != 0 {
				t.Errorf("Append to a full zone: %d beside an error", n)
			}
		}
		shows(t, "behind ErrFull", d, was)
		sure(t, "behind ErrFull", d, wasSure)
		appended(t, d, 6, "a")
		must(t, "Reset", d.Reset(7), api.OK)
		appended(t, d, 7, "x")
		shows(t, "behind Reset", d, image(map[int][]string{6: {"a"}, 7: {"x"}}))
	}
}

// TestErrorOrder: 3.1 and P3, which error comes first where several apply.
func TestErrorOrder(t *testing.T) {
	full := New()
	for i := range 16 {
		appended(t, full, 2, fmt.Sprint(i))
	}
	for _, fuse := range []int{-1, 0} {
		full.Fuse(fuse)
		free := api.OK
		if fuse == 0 {
			free = api.ErrDevice
		}
		for _, c := range []struct {
			zone, size int
			want       api.Errno
		}{
			{-1, 129, api.ErrRange}, {8, 129, api.ErrRange}, {8, 0, api.ErrRange},
			{2, 129, api.ErrLimit}, {3, 129, api.ErrLimit},
			{2, 128, api.ErrFull}, {2, 0, api.ErrFull},
			{3, 128, free}, {4, 0, free},
		} {
			_, err := full.Append(c.zone, long(c.size))
			must(t, fmt.Sprint("Append of ", c, " with fuse ", fuse), err, c.want)
		}
		must(t, "Reset of no zone", full.Reset(8), api.ErrRange)
		must(t, "Reset", full.Reset(5), free)
		must(t, "Put to no slot", full.Put(2, long(501)), api.ErrRange)
		must(t, "Put of too much", full.Put(1, long(501)), api.ErrLimit)
		must(t, "Put", full.Put(1, long(500)), free)
		_, err := full.Read(8, -1)
		must(t, "Read of no zone", err, api.ErrRange)
		must(t, "Sync", full.Sync(), free)
	}
}

// TestReset: 3.1, a zone is emptied at once, what was sure of it, and what was not; all else stays as it was.
func TestReset(t *testing.T) {
	d := New()
	appended(t, d, 0, "a", "b")
	appended(t, d, 1, "c")
	written(t, d, 0, "s")
	synced(t, d)
	appended(t, d, 0, "d", "e")
	appended(t, d, 1, "f")
	written(t, d, 1, "t")
	must(t, "Reset", d.Reset(0), api.OK)
	shows(t, "behind Reset", d, image(map[int][]string{1: {"c", "f"}}, "s", "t"))
	sure(t, "behind Reset", d, image(map[int][]string{1: {"c"}}, "s"))
	must(t, "Reset of an empty zone", d.Reset(0), api.OK)
	must(t, "Reset of an empty zone", d.Reset(7), api.OK)
	d.Crash([]int{4, 4}, []bool{true})
	allSure(t, "behind Crash", d, image(map[int][]string{1: {"c", "f"}}, "s", "t"))
}

// TestResetThenAppend: 3.1 and 3.2, of a zone that was emptied while blocks of it were sure, and others not, only those are not sure, and kept, that were written behind that.
func TestResetThenAppend(t *testing.T) {
	for keep := range 5 {
		d := New()
		appended(t, d, 0, long(128), long(127))
		synced(t, d)
		appended(t, d, 0, long(126), long(125))
		must(t, "Reset", d.Reset(0), api.OK)
		appended(t, d, 0, "x", "y", "")
		shows(t, "behind Append", d, image(map[int][]string{0: {"x", "y", ""}}))
		sure(t, "behind Append", d, image(nil))
		d.Crash([]int{keep}, nil)
		allSure(t, fmt.Sprint("keeping ", keep), d, image(map[int][]string{0: []string{"x", "y", ""}[:min(keep, 3)]}))
	}
}

// TestSlots: 3.1, each slot is as it was written last, and only Sync makes it sure.
func TestSlots(t *testing.T) {
	d := New()
	written(t, d, 0, "a", "b")
	written(t, d, 1, "c")
	shows(t, "behind Put", d, image(nil, "b", "c"))
	sure(t, "behind Put", d, image(nil))
	synced(t, d)
	allSure(t, "behind Sync", d, image(nil, "b", "c"))
	written(t, d, 1, "d", "")
	shows(t, "behind Put", d, image(nil, "b", ""))
	sure(t, "behind Put", d, image(nil, "b", "c"))
	synced(t, d)
	allSure(t, "behind Sync", d, image(nil, "b"))
}

// TestFuse: 3.1, a fuse is spent at each kind of call, and stays so; what is not done does nothing.
func TestFuse(t *testing.T) {
	calls := map[string]func(d *Device) error{
		"Append": func(d *Device) error {
			n, err := d.Append(0, "x")
			if err != nil && n != 0 {
				t.Errorf("Append: %d beside an error", n)
			}
			return err
		},
		"Reset": func(d *Device) error { return d.Reset(0) },
		"Put":   func(d *Device) error { return d.Put(0, "x") },
		"Sync":  func(d *Device) error { return d.Sync() },
	}
	for first, one := range calls {
		for second, two := range calls {
			for fuse := range 4 {
				d := New()
				appended(t, d, 0, "a")
				written(t, d, 0, "s")
				synced(t, d)
				appended(t, d, 0, "b")
				written(t, d, 1, "t")
				d.Fuse(fuse)
				for i := range fuse {
					must(t, fmt.Sprint(first, " ", i, " of ", fuse), one(d), api.OK)
				}
				was, wasSure := seen(t, d), d.Image()
				for range 3 {
					must(t, second+" behind the fuse", two(d), api.ErrDevice)
				}
				shows(t, second+" behind the fuse", d, was)
				sure(t, second+" behind the fuse", d, wasSure)
				d.Fuse(-1)
				must(t, second+" without a fuse", two(d), api.OK)
			}
		}
	}
}

// TestFuseStays: 3.1, calls that tell an error ahead of ErrDevice, and those that only look, take nothing off the fuse; nor does Lay, which says nothing of it.
func TestFuseStays(t *testing.T) {
	for fuse := range 4 {
		d := New()
		for i := range 16 {
			appended(t, d, 0, fmt.Sprint(i))
		}
		d.Fuse(fuse)
		for range 3 {
			_, err := d.Append(8, "")
			must(t, "Append to no zone", err, api.ErrRange)
			_, err = d.Append(1, long(129))
			must(t, "Append of too much", err, api.ErrLimit)
			_, err = d.Append(0, "")
			must(t, "Append to a full zone", err, api.ErrFull)
			must(t, "Reset of no zone", d.Reset(-1), api.ErrRange)
			must(t, "Put to no slot", d.Put(2, ""), api.ErrRange)
			must(t, "Put of too much", d.Put(0, long(501)), api.ErrLimit)
			seen(t, d)
			d.Lay(image(map[int][]string{0: slices.Repeat([]string{"a"}, 16)}))
			d.Image()
		}
		left(t, d, fuse)
	}
}

// TestFuseAgain: 3.1 and 3.2, the fuse told last holds; below 0, and behind a crash, there is none.
func TestFuseAgain(t *testing.T) {
	for _, n := range []int{-1, -2, -50, math.MinInt, 0, 1, 7, 49} {
		for _, before := range []int{-1, 0, 3, math.MaxInt} {
			d := New()
			d.Fuse(before)
			d.Fuse(n)
			left(t, d, n)
			d.Fuse(before)
			d.Crash(nil, nil)
			left(t, d, -1)
			d.Fuse(n)
			left(t, d, n)
		}
	}
	d := New()
	d.Fuse(math.MaxInt)
	left(t, d, -1)
}

// TestCrashBlocks: 3.2, of each zone the first so many are kept, of those that are not sure.
func TestCrashBlocks(t *testing.T) {
	texts := []string{"a", "b", "c", "d", "e"}
	for _, c := range []struct {
		keeps []int
		kept  [8]int // blocks of each zone: 2 are sure, 3 are not
	}{
		{nil, [8]int{2, 2, 2, 2, 2, 2, 2, 2}},
		{[]int{}, [8]int{2, 2, 2, 2, 2, 2, 2, 2}},
		{[]int{0}, [8]int{2, 2, 2, 2, 2, 2, 2, 2}},
		{[]int{1}, [8]int{3, 2, 2, 2, 2, 2, 2, 2}},
		{[]int{0, 1, 2, 3, 4, 5, 16, 17}, [8]int{2, 3, 4, 5, 5, 5, 5, 5}},
		{[]int{-1, -2, -3, math.MinInt, math.MaxInt, math.MaxInt - 1, -1, 1}, [8]int{2, 2, 2, 2, 5, 5, 2, 3}},
		{[]int{3, 3, 3, 3, 3, 3, 3, 3, 3, -1, math.MaxInt}, [8]int{5, 5, 5, 5, 5, 5, 5, 5}},
	} {
		d, want := New(), map[int][]string{}
		for z := range 8 {
			appended(t, d, z, texts[:2]...)
			want[z] = texts[:c.kept[z]]
		}
		synced(t, d)
		for z := range 8 {
			appended(t, d, z, texts[2:]...)
		}
		d.Crash(c.keeps, []bool{true, true})
		allSure(t, fmt.Sprint("keeping ", c.keeps), d, image(want))
		d.Crash([]int{-5, -5, -5, -5, -5, -5, -5, -5}, nil)
		allSure(t, "what is kept is sure", d, image(want))
	}
}

// TestCrashThenAppend: 3.2, behind blocks that are kept the next one is written, and has nothing of a lost one behind it.
func TestCrashThenAppend(t *testing.T) {
	d := New()
	appended(t, d, 4, long(128), long(128), long(128))
	d.Crash([]int{0, 0, 0, 0, 1}, nil)
	appended(t, d, 4, "x", "")
	shows(t, "behind Append", d, image(map[int][]string{4: {long(128), "x", ""}}))
	sure(t, "behind Append", d, image(map[int][]string{4: {long(128)}}))
	d.Crash([]int{0, 0, 0, 0, 1}, nil)
	allSure(t, "behind another crash", d, image(map[int][]string{4: {long(128), "x"}}))
	for range 14 {
		appended(t, d, 4, "y")
	}
	_, err := d.Append(4, "z")
	must(t, "Append to a full zone", err, api.ErrFull)
}

// TestCrashSlots: 3.2, writes of slots that are not sure are kept or lost one by one, in the order in which they were, whichever slot they were to.
func TestCrashSlots(t *testing.T) {
	const yes, no = true, false
	for _, c := range []struct {
		slots []bool
		want  [2]string
	}{
		{nil, [2]string{"s", "t"}},
		{[]bool{}, [2]string{"s", "t"}},
		{[]bool{no, no, no, no, no}, [2]string{"s", "t"}},
		{[]bool{yes}, [2]string{"a", "t"}},
		{[]bool{no, yes}, [2]string{"b", "t"}},
		{[]bool{no, no, yes}, [2]string{"s", "c"}},
		{[]bool{no, no, no, yes}, [2]string{"d", "t"}},
		{[]bool{no, no, no, no, yes}, [2]string{"s", ""}},
		{[]bool{yes, yes}, [2]string{"b", "t"}},
		{[]bool{yes, no, yes}, [2]string{"a", "c"}},
		{[]bool{yes, yes, yes, no, no}, [2]string{"b", "c"}},
		{[]bool{yes, no, yes, yes, no}, [2]string{"d", "c"}},
		{[]bool{yes, yes, yes, yes, yes}, [2]string{"d", ""}},
		{[]bool{yes, yes, yes, yes, yes, no, yes, no}, [2]string{"d", ""}},
		{[]bool{no, no, no, no, no, yes, yes}, [2]string{"s", "t"}},
	} {
		d := New()
		written(t, d, 0, "r", "s")
		written(t, d, 1, "t")
		synced(t, d)
		written(t, d, 0, "a", "b")
		written(t, d, 1, "c")
		written(t, d, 0, "d")
		written(t, d, 1, "")
		shows(t, "ahead of Crash", d, image(nil, "d", ""))
		d.Crash([]int{9, 9}, c.slots)
		allSure(t, fmt.Sprint("keeping ", c.slots), d, image(nil, c.want[:]...))
		d.Crash(nil, []bool{yes, yes, yes, yes, yes})
		allSure(t, "what is kept is sure, what is lost is lost", d, image(nil, c.want[:]...))
	}
}

// TestCrashCountsWrites: 3.2, only writes that were done, and were not sure, are counted.
func TestCrashCountsWrites(t *testing.T) {
	d := New()
	written(t, d, 0, "a")
	synced(t, d)
	must(t, "Put to no slot", d.Put(2, "b"), api.ErrRange)
	must(t, "Put of too much", d.Put(0, long(501)), api.ErrLimit)
	d.Fuse(0)
	must(t, "Put behind the fuse", d.Put(0, "c"), api.ErrDevice)
	d.Fuse(-1)
	written(t, d, 1, "d")
	written(t, d, 0, "e")
	d.Crash(nil, []bool{true, false, true})
	allSure(t, "the first write kept", d, image(nil, "a", "d"))
	written(t, d, 0, "f", "g")
	d.Lay(image(nil, "l", "m"))
	written(t, d, 1, "h", "i")
	d.Crash(nil, []bool{true, false, true, true})
	allSure(t, "the first write behind Lay kept", d, image(nil, "l", "h"))
}

// TestImageLay: 3.2, what is sure is laid down elsewhere, as it lay; and again on the same device.
func TestImageLay(t *testing.T) {
	d := New()
	want := map[int][]string{0: {"a", long(128)}, 3: slices.Repeat([]string{"z"}, 16), 7: {""}}
	for z, texts := range want {
		appended(t, d, z, texts...)
	}
	written(t, d, 1, long(500))
	synced(t, d)
	m := d.Image()
	sure(t, "the image", d, image(want, "", long(500)))
	appended(t, d, 0, "lost")
	appended(t, d, 5, "lost")
	written(t, d, 0, "lost")
	must(t, "Reset", d.Reset(3), api.OK)
	sure(t, "Image tells what is sure alone", d, image(map[int][]string{0: {"a", long(128)}, 7: {""}}, "", long(500)))
	d.Lay(m)
	allSure(t, "laid again", d, m)
	d.Crash([]int{9, 9, 9, 9, 9, 9, 9, 9}, []bool{true, true})
	allSure(t, "what was not sure is lost", d, m)
	other := New()
	other.Lay(m)
	allSure(t, "laid elsewhere", other, m)
	appended(t, other, 0, "c")
	other.Crash(nil, nil)
	allSure(t, "laid blocks are sure", other, m)
	other.Lay(api.Image{})
	allSure(t, "an image of nothing", other, image(nil))
}

// TestLayCuts: 3.2, blocks behind Cap are left out; blocks and slots are as long as they must be.
func TestLayCuts(t *testing.T) {
	for count := range 40 {
		var texts []string
		for i := range count {
			texts = append(texts, fmt.Sprint(i))
		}
		d := New()
		d.Lay(api.Image{Zones: [8][]string{2: texts}})
		allSure(t, fmt.Sprint(count, " blocks"), d, image(map[int][]string{2: texts[:min(count, 16)]}))
		n, err := d.Append(2, "x")
		if count < 16 {
			must(t, "Append behind Lay", err, api.OK)
			if n != count {
				t.Errorf("Append behind %d blocks: %d", count, n)
			}
		} else {
			must(t, "Append behind Lay", err, api.ErrFull)
		}
	}
	for _, size := range []int{0, 1, 127, 128, 129, 300, 499, 500, 501, 2000} {
		d, s := New(), long(size)
		appended(t, d, 1, long(128), long(128))
		written(t, d, 0, long(500))
		synced(t, d)
		d.Lay(api.Image{Zones: [8][]string{1: {s, "b"}, 6: {"", s, ""}}, Slots: [2]string{s, s}})
		b, p := s[:min(size, 128)], s[:min(size, 500)]
		allSure(t, fmt.Sprint(size, " bytes"), d, image(map[int][]string{1: {b, "b"}, 6: {"", b, ""}}, p, p))
	}
}

// TestLists: P4, lists that are handed in are not written into and not kept, nor what stands behind them; images are the caller's.
func TestLists(t *testing.T) {
	d := New()
	keeps, slots := []int{-1, 1, 99, 7, 7}, []bool{false, true, false, true}
	for z := range 4 {
		appended(t, d, z, "a", "b")
	}
	written(t, d, 0, "s", "t", "u")
	d.Crash(keeps[:3], slots[:3])
	if !slices.Equal(keeps, []int{-1, 1, 99, 7, 7}) || !slices.Equal(slots, []bool{false, true, false, true}) {
		t.Errorf("Crash wrote into its lists: %v, %v", keeps, slots)
	}
	want := image(map[int][]string{1: {"a"}, 2: {"a", "b"}}, "t")
	allSure(t, "behind Crash", d, want)

	blocks := []string{"p", long(130), "q", "behind"}
	d.Lay(api.Image{Zones: [8][]string{0: blocks[:2], 1: blocks[:3]}})
	if !slices.Equal(blocks, []string{"p", long(130), "q", "behind"}) {
		t.Errorf("Lay wrote into its lists: %q", blocks)
	}
	want = image(map[int][]string{0: {"p", long(128)}, 1: {"p", long(128), "q"}})
	blocks[0], blocks[2] = "other", "other"
	allSure(t, "the list of Lay was changed", d, want)
	appended(t, d, 0, "x")
	if blocks[2] != "other" || blocks[3] != "behind" {
		t.Errorf("Append wrote into the list of Lay: %q", blocks)
	}
	d.Crash(nil, nil)

	m, n := d.Image(), d.Image()
	for z := range m.Zones {
		for i := range m.Zones[z] {
			m.Zones[z][i] = "other"
		}
		_ = append(m.Zones[z], "other")
	}
	allSure(t, "an image was changed", d, want)
	if !sameImage(n, want) {
		t.Errorf("an image was changed, and so was another one: %q", n)
	}
	n = d.Image()
	must(t, "Reset", d.Reset(0), api.OK)
	appended(t, d, 1, "y")
	synced(t, d)
	if !sameImage(n, want) {
		t.Errorf("the device was changed, and so was its image: %q", n)
	}
}

// TestBytes: P5, texts are bytes, 0 and those that are no UTF-8 among them.
func TestBytes(t *testing.T) {
	var all strings.Builder
	for b := range 256 {
		all.WriteByte(byte(b))
	}
	s := all.String()
	d := New()
	appended(t, d, 0, s[:128], s[128:], "\x00a\x00", "\xff")
	written(t, d, 0, s)
	synced(t, d)
	allSure(t, "bytes", d, image(map[int][]string{0: {s[:128], s[128:], "\x00a\x00", "\xff"}}, s))
}

// TestNil: P1, no call panics on a device that is nil; it answers as a new one does.
func TestNil(t *testing.T) {
	var d *Device
	shows(t, "nil", d, image(nil))
	n, err := d.Append(0, "a")
	must(t, "Append", err, api.OK)
	_, err = d.Append(8, "a")
	must(t, "Append to no zone", err, api.ErrRange)
	must(t, "Reset", d.Reset(0), api.OK)
	must(t, "Put", d.Put(0, "a"), api.OK)
	must(t, "Sync", d.Sync(), api.OK)
	d.Fuse(0)
	d.Crash([]int{1}, []bool{true})
	d.Lay(image(map[int][]string{0: {"a"}}))
	allSure(t, "nil", d, image(nil))
	if n != 0 {
		t.Errorf("Append: %d", n)
	}
}

// TestAlike: P4, devices to which the same was done answer the same, and two that have one device see what is done to it.
func TestAlike(t *testing.T) {
	a, b := New(), New()
	c := a
	for _, d := range []*Device{a, b} {
		appended(t, d, 1, "a", "b")
		written(t, d, 1, "s")
		d.Crash([]int{0, 1}, []bool{true})
		d.Fuse(3)
	}
	if !reflect.DeepEqual(a.Image(), b.Image()) {
		t.Errorf("two that are alike: %q, %q", a.Image(), b.Image())
	}
	allSure(t, "the same device", c, image(map[int][]string{1: {"a"}}, "", "s"))
	appended(t, a, 1, "x")
	appended(t, b, 1, "x")
	appended(t, c, 1, "y")
	left(t, a, 1)
	left(t, b, 2)
}
