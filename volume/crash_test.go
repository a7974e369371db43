package volume

import (
	"fmt"
	"maps"
	"reflect"
	"testing"

	"saltern/api"
)

// lossy is something that is done while power may be lost behind each of its deeds.
type lossy struct {
	what  string
	setup func(t *testing.T) *rig
	do    func(r *rig) error
	deeds int
	table int // behind so many deeds a table was written, and behind one more it is sure
	last  map[int]string
	being map[int]string // what is being told
}

// atWork is a volume in which zone 0 is full and has two cells, zone 1 is full and has more, and in which something was written and not told.
func atWork(t *testing.T) *rig {
	t.Helper()
	r := forged(t, [8]int{16, 16, 14}, map[int]place{4: {0, 9}, 2: {0, 15}, 5: {1, 0}, 6: {1, 1}, 7: {1, 2}, 8: {2, 0}})
	r.write(8, "eight", 5, "", 10, "ten", 11, "eleven")
	return r
}

// tight is a volume like that, of which so few blocks are free that a zone is emptied first.
func tight(t *testing.T) *rig {
	t.Helper()
	r := atWork(t)
	r.junk(3, 8)
	for z := 4; z < 7; z++ {
		r.junk(z, 15)
	}
	r.junk(7, 4)
	r.write(13, "thirteen", 14, "fourteen")
	r.counts("tight", 1, 1, api.Reserve)
	return r
}

func lossies() []lossy {
	last := map[int]string{4: "cell 4", 2: "cell 2", 5: "cell 5", 6: "cell 6", 7: "cell 7", 8: "cell 8"}
	being := map[int]string{4: "cell 4", 2: "cell 2", 6: "cell 6", 7: "cell 7", 8: "eight", 10: "ten", 11: "eleven"}
	more := with(with(being, 13, "thirteen"), 14, "fourteen")
	write := func(r *rig) error { return r.v.Write(0, "new") }
	flush := func(r *rig) error { return r.v.Flush() }
	reclaim := func(r *rig) error { _, _, err := r.v.Reclaim(); return err }
	return []lossy{
		{"Write", atWork, write, 1, 99, last, being},
		{"Write and Flush", atWork, func(r *rig) error {
			if err := write(r); err != nil {
				return err
			}
			return flush(r)
		}, 4, 3, last, with(being, 0, "new")},
		{"Flush", atWork, flush, 3, 2, last, being},
		{"Reclaim", atWork, reclaim, 2 + 3 + 1, 2 + 2, last, being},
		{"a Write that empties", tight, write, 2 + 3 + 1 + 1, 2 + 2, last, more},
		{"a Flush when it is tight", tight, flush, 3, 2, last, more},
	}
}

// loss is a way in which power is lost: how many blocks of each zone are kept, and whether the slot that was written is.
type loss struct {
	blocks [8]int
	slot   bool
}

// losses are such ways: of one zone, or of all, no block, the first, the first two, or all.
func losses() (out []loss) {
	for _, slot := range []bool{false, true} {
		out = append(out, loss{slot: slot})
		for _, n := range []int{1, 2, 16} {
			out = append(out, loss{[8]int{n, n, n, n, n, n, n, n}, slot})
			for z := range 8 {
				one := loss{slot: slot}
				one.blocks[z] = n
				out = append(out, one)
			}
		}
	}
	return out
}

// TestCrash: 8.4, power that is lost behind each deed, with any of what is not sure kept or lost: what was told last, or, if its table was kept, what was being told; and the volume goes on.
func TestCrash(t *testing.T) {
	for _, x := range lossies() {
		for fuse := range x.deeds + 1 {
			for _, l := range losses() {
				what := fmt.Sprint(x.what, ", fuse ", fuse, ", kept ", l)
				r := x.setup(t)
				r.d.Fuse(fuse)
				want := api.ErrDevice
				if fuse == x.deeds {
					want = api.OK
				}
				must(t, what, x.do(r), want)
				r.d.Crash(l.blocks[:], []bool{l.slot})
				r.open()
				count, says := 1, x.last
				if fuse > x.table || fuse == x.table && l.slot {
					count, says = 2, x.being
				}
				r.says(what, says)
				r.counts(what, count, count, r.v.Free())
				r.goesOn(what, says)
			}
		}
	}
}

// goesOn holds a volume that was opened behind a crash to work: all is written anew, told, and there again.
func (r *rig) goesOn(what string, was map[int]string) {
	r.Helper()
	count, want := r.v.Count(), maps.Clone(was)
	for cell := 0; cell < 24; cell += 3 {
		want[cell] = fmt.Sprint("again ", cell)
		r.write(cell, want[cell])
	}
	r.flush()
	if r.v.Count() <= count || r.c.Get() != r.v.Count() {
		r.Fatalf("%s: Count %d behind %d, counter %d", what, r.v.Count(), count, r.c.Get())
	}
	r.crash(false)
	r.says(what+", and on", want)
}

// TestCrashAgain: 8.4, power that is lost again and again at the same work: what was told is there each time.
func TestCrashAgain(t *testing.T) {
	for fuse := range 4 {
		r := atWork(t)
		r.crash(true)
		told := says(t, r.v)
		for range 4 {
			r.d.Fuse(fuse)
			r.refused("Reclaim", api.ErrDevice)
			r.crash(false)
			r.says("again", told)
		}
		r.reclaimAny()
		r.crash(false)
		r.says("done at last", told)
	}
}

// history is a volume's images, one behind each Flush, of which the last was told last; zones are emptied and written again in it.
func history(t *testing.T) (*rig, []api.Image) {
	t.Helper()
	r := newRig(t)
	images := []api.Image{r.d.Image()}
	for i := range 8 {
		for n := range 7 {
			r.write(n, fmt.Sprint("text ", i/(n+1)))
			r.write(7+n%2, fmt.Sprint("much ", i, n))
		}
		if i == 6 {
			r.write(3, "", 7, "text 0")
		}
		if i%3 == 2 {
			r.reclaimAny()
		} else {
			r.flush()
		}
		images = append(images, r.d.Image())
	}
	return r, images
}

func (r *rig) reclaimAny() {
	r.Helper()
	_, ok, err := r.v.Reclaim()
	must(r.T, "Reclaim", err, api.OK)
	if !ok {
		r.Fatal("no zone was full")
	}
}

// opensAs holds Open of an image to tell ErrSpoilt, or just what was told last: whether it was that.
func (r *rig) opensAs(what string, m api.Image, told map[int]string) bool {
	r.Helper()
	count := r.c.Get()
	r.d.Lay(m)
	v, err := Open(r.d, r.c, secret)
	if err != nil {
		must(r.T, what, err, api.ErrSpoilt)
		return false
	}
	r.v = v
	r.says(what, told)
	r.counts(what, count, count, v.Free())
	return true
}

// TestElderImage: 8.4, each elder image that is laid down again is noticed; the last one is as it was.
func TestElderImage(t *testing.T) {
	r, images := history(t)
	told := says(t, r.v)
	last := len(images) - 1
	for i, m := range images {
		if ok := r.opensAs(fmt.Sprint("image ", i, " of ", last), m, told); ok != (i == last) {
			t.Errorf("image %d of %d: opened: %v", i, last, ok)
		}
	}
	r.d.Lay(images[last])
	r.open()
	r.says("the last one", told)
}

// TestElderBehindError: 8.4, behind an error what was told last is there, or what was being told; once that was opened, what was told ahead of it is old.
func TestElderBehindError(t *testing.T) {
	r := newRig(t)
	r.write(0, "zero", 1, "one")
	r.flush()
	elder := r.d.Image()
	r.write(0, "ZERO", 2, "two")
	r.flush()
	last, told := r.d.Image(), says(t, r.v)
	r.write(1, "", 2, "TWO")
	r.d.Fuse(2)
	must(t, "Flush", r.v.Flush(), api.ErrDevice)
	r.d.Crash(nil, []bool{true})
	being := r.d.Image()

	r.d.Lay(elder)
	r.spoilt("an elder image behind an error")
	r.d.Lay(last)
	r.open()
	r.says("told last", told)
	r.counts("told last", 2, 2, 128-4)
	// Its table is there, but a block of it is not: what was told last holds.
	torn := copied(being)
	torn.Zones[0] = torn.Zones[0][:4]
	r.d.Lay(torn)
	r.open()
	r.says("told last", told)
	r.counts("told last", 2, 2, 128-4)
	r.d.Lay(being)
	r.open()
	r.says("being told", map[int]string{0: "ZERO", 2: "TWO"})
	r.counts("being told", 3, 3, 128-5)
	for _, m := range []api.Image{elder, last, torn} {
		r.d.Lay(m)
		r.spoilt("what was told ahead of it")
	}
}

// TestOtherByte: 8.4, a device one of whose bytes is another one: ErrSpoilt, if it is of a cell's block or of the table; else nothing is lost.
func TestOtherByte(t *testing.T) {
	r := newRig(t)
	r.write(0, "zero", 23, "elder", 1, "one")
	r.flush()
	r.write(0, "ZERO", 23, "last", 2, "two")
	r.write(2, "")
	r.flush()
	r.junk(1, 1)
	told, image := says(t, r.v), r.d.Image()
	live := map[place]bool{{0, 2}: true, {0, 3}: true, {0, 4}: true}
	for z, blocks := range image.Zones {
		for off := range blocks {
			for i := range 128 {
				m := copied(image)
				m.Zones[z][off] = flipped(m.Zones[z][off], i)
				what := fmt.Sprint("byte ", i, " of block ", z, ", ", off)
				if ok := r.opensAs(what, m, told); ok == (live[place{z, off}] && i < sealed) {
					t.Errorf("%s: opened: %v", what, ok)
				}
			}
		}
	}
	for n, s := range image.Slots {
		for i := range 500 {
			m := image
			m.Slots[n] = flipped(s, i)
			what := fmt.Sprint("byte ", i, " of slot ", n)
			if ok := r.opensAs(what, m, told); ok == (n == 0) {
				t.Errorf("%s: opened: %v", what, ok)
			}
		}
	}
}

// flipped is a text in which one byte is another one: another bit of it each time.
func flipped(s string, i int) string {
	return s[:i] + string([]byte{s[i] ^ 1<<(i%8)}) + s[i+1:]
}

// TestOfDifferentTimes: 8.4, zones and slots of different times: not of this and of that.
func TestOfDifferentTimes(t *testing.T) {
	r, images := history(t)
	told := says(t, r.v)
	last := len(images) - 1
	noticed, opened := 0, 0
	draw := die(8)
	for i := range 3000 {
		m := copied(images[last])
		// Few zones of other times at first: all of them would always be noticed.
		for range 1 + i%4 {
			z := draw.n(8)
			m.Zones[z] = images[draw.n(last+1)].Zones[z]
		}
		if i%3 == 0 {
			n := draw.n(2)
			m.Slots[n] = images[draw.n(last+1)].Slots[n]
		}
		if r.opensAs(fmt.Sprint("mix ", i), m, told) {
			opened++
		} else {
			noticed++
		}
	}
	if noticed < 500 || opened < 500 {
		t.Errorf("%d were noticed, %d opened: too few to tell", noticed, opened)
	}
}

// TestOfDifferentBlocks: 8.4, blocks of other places and other times in one another's place.
func TestOfDifferentBlocks(t *testing.T) {
	r, images := history(t)
	told := says(t, r.v)
	last := images[len(images)-1]
	var blocks []string
	for _, m := range images {
		for _, l := range m.Zones {
			blocks = append(blocks, l...)
		}
	}
	draw := die(4)
	for i := range 2000 {
		m := copied(last)
		z := draw.n(8)
		for len(m.Zones[z]) == 0 {
			z = draw.n(8)
		}
		off := draw.n(len(m.Zones[z]))
		m.Zones[z][off] = blocks[draw.n(len(blocks))]
		r.opensAs(fmt.Sprint("mix ", i), m, told)
	}
	if !reflect.DeepEqual(last, images[len(images)-1]) {
		t.Error("an image was changed")
	}
}
