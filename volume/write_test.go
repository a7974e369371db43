package volume

import (
	"fmt"
	"maps"
	"reflect"
	"slices"
	"strings"
	"testing"

	"saltern/api"
)

// place is where a cell lies.
type place struct{ zone, off int }

// forged is a volume of Count 1, whose zones have so many blocks; a cell lies where it is told, and says its number; all other blocks are junk.
func forged(t *testing.T, at [8]int, cells map[int]place) *rig {
	t.Helper()
	var m api.Image
	for z, n := range at {
		for off := range n {
			m.Zones[z] = append(m.Zones[z], fmt.Sprint("junk ", z, off))
		}
	}
	x := api.Table{Count: 1}
	for cell, p := range cells {
		s := block(t, secret, cell, fmt.Sprint("cell ", cell))
		m.Zones[p.zone][p.off] = s
		x.Cells[cell] = api.Cell{Zone: p.zone, Off: p.off, Tag: s[:16]}
	}
	m.Slots[1] = slot(t, secret, x)
	r := raised(t, 1)
	r.d.Lay(m)
	r.open()
	r.says("forged", numbers(cells))
	return r
}

// numbers is what cells of a forged volume say.
func numbers(cells map[int]place) map[int]string {
	out := map[int]string{}
	for cell := range cells {
		out[cell] = fmt.Sprint("cell ", cell)
	}
	return out
}

// with is a map in which one more cell says something.
func with(m map[int]string, cell int, text string) map[int]string {
	out := maps.Clone(m)
	out[cell] = text
	return out
}

// view is all that a device shows, sure or not.
func (r *rig) view() api.Image {
	r.Helper()
	var m api.Image
	for z, n := range r.at() {
		for off := range n {
			s, err := r.d.Read(z, off)
			must(r.T, "Read of a block", err, api.OK)
			m.Zones[z] = append(m.Zones[z], s)
		}
	}
	for i := range 2 {
		s, err := r.d.Get(i)
		must(r.T, "Get", err, api.OK)
		m.Slots[i] = s
	}
	return m
}

// untouched holds a call to leave all as it was, what is sure and what is not.
func (r *rig) untouched(what string, call func()) {
	r.Helper()
	type all struct {
		sure, view           api.Image
		count, counter, free int
		says                 map[int]string
	}
	look := func() all {
		return all{r.d.Image(), r.view(), r.v.Count(), r.c.Get(), r.v.Free(), says(r.T, r.v)}
	}
	was := look()
	call()
	if !reflect.DeepEqual(was, look()) {
		r.Fatalf("%s: something was changed", what)
	}
}

// reclaim holds Reclaim to empty a zone in which so many cells were.
func (r *rig) reclaim(want int) {
	r.Helper()
	n, ok, err := r.v.Reclaim()
	must(r.T, "Reclaim", err, api.OK)
	if n != want || !ok {
		r.Fatalf("Reclaim: %d, %v, not %d", n, ok, want)
	}
}

// refused holds Reclaim to tell an error, and 0 and false beside it.
func (r *rig) refused(what string, want api.Errno) {
	r.Helper()
	n, ok, err := r.v.Reclaim()
	must(r.T, what, err, want)
	if n != 0 || ok {
		r.Fatalf("%s: %d, %v beside an error", what, n, ok)
	}
}

// stopped holds a volume whose device told ErrDevice to tell ErrState of all that would do something, ahead of any other error, also when the device would work again; what cells say is read all the same.
func (r *rig) stopped(what string) {
	r.Helper()
	r.d.Fuse(-1)
	r.untouched(what, func() {
		for _, cell := range append(slices.Clone(noCells), 0, 7, 23) {
			for _, text := range []string{"", "a", "cell 7", strings.Repeat("x", 81)} {
				must(r.T, fmt.Sprint(what, ": Write ", cell), r.v.Write(cell, text), api.ErrState)
			}
		}
		must(r.T, what+": Flush", r.v.Flush(), api.ErrState)
		r.refused(what+": Reclaim", api.ErrState)
	})
}

// TestWriteSizes: 8.2, texts of 0, 1, Plain and more bytes, in the first and the last cell: what is read at once, and what is appended.
func TestWriteSizes(t *testing.T) {
	for _, cell := range []int{0, 1, 22, 23} {
		r := newRig(t)
		for i, size := range []int{1, 2, 79, 80} {
			text := strings.Repeat("\xff", size-1) + "\x00"
			r.write(cell, text)
			r.says("written", map[int]string{cell: text})
			r.stands("written", i+1, 0, 0, 0, 0, 0, 0, 0)
			r.lies(0, i, cell, text)
		}
		for _, size := range []int{81, 82, 128, 256 + 80, 70000} {
			r.untouched("a text that is too long", func() {
				must(t, "Write", r.v.Write(cell, strings.Repeat("z", size)), api.ErrLimit)
			})
		}
		r.write(cell, "")
		r.says("of 0 bytes", map[int]string{})
		r.stands("of 0 bytes", 4, 0, 0, 0, 0, 0, 0, 0)
		r.counts("behind all", 0, 0, 124)
		r.flush()
		r.crash(false)
		r.says("told", map[int]string{})
	}
}

// TestWriteAllCells: 8.2, each cell is itself, also when all say the same.
func TestWriteAllCells(t *testing.T) {
	r := newRig(t)
	want := map[int]string{}
	for i := range 24 {
		r.write(i, "the same")
		want[i] = "the same"
		r.says("written", want)
		r.lies(i/16, i%16, i, "the same")
	}
	r.flush()
	r.crash(false)
	r.says("told", want)
}

// TestWriteNothing: 8.2, what a cell says already, and nothing, takes no deed of the device: a spent fuse does not matter.
func TestWriteNothing(t *testing.T) {
	r := newRig(t)
	full := strings.Repeat("y", 80)
	r.write(3, "x", 4, full, 5, "told")
	r.flush()
	r.write(6, "not told")
	r.d.Fuse(0)
	r.untouched("what cells say already", func() {
		r.write(3, "x", 4, full, 5, "told", 6, "not told", 0, "", 23, "")
	})
	view := r.view()
	r.write(5, "")
	r.says("a cell says nothing", map[int]string{3: "x", 4: full, 6: "not told"})
	r.write(5, "")
	if !reflect.DeepEqual(r.view(), view) {
		t.Error("a cell that says nothing again: the device was changed")
	}
	r.untouched("a text behind the fuse", func() {
		must(t, "Write", r.v.Write(5, "told"), api.ErrDevice)
	})
	r.stopped("behind the fuse")
}

// everywhere is a cell in each zone, cell 10 in zone 0, cell 11 in zone 1 ..
func everywhere() map[int]place {
	cells := map[int]place{}
	for z := range 8 {
		cells[10+z] = place{z, 2 * z}
	}
	return cells
}

var allFull = [8]int{16, 16, 16, 16, 16, 16, 16, 16}

// TestWriteFull: 8.2, when nothing is free a cell may be written what it says, or nothing; all else is ErrFull, but for what is told ahead of it; and behind it the volume goes on.
func TestWriteFull(t *testing.T) {
	r := forged(t, allFull, everywhere())
	want := numbers(everywhere())
	r.counts("full", 1, 1, 0)
	r.untouched("a full device", func() {
		r.write(10, "cell 10", 17, "cell 17", 0, "")
		must(t, "Write of another text", r.v.Write(10, "other"), api.ErrFull)
		must(t, "Write of a new cell", r.v.Write(0, "new"), api.ErrFull)
		must(t, "Write of a long text", r.v.Write(0, strings.Repeat("l", 81)), api.ErrLimit)
		must(t, "Write of no cell", r.v.Write(24, strings.Repeat("l", 81)), api.ErrRange)
		r.refused("Reclaim", api.ErrFull)
	})
	r.write(13, "")
	delete(want, 13)
	r.says("a cell says nothing", want)
	// Zone 3 has no cells now: it is emptied, and taken.
	r.write(0, "new")
	want[0] = "new"
	r.says("room was made", want)
	r.stands("room was made", 16, 16, 16, 1, 16, 16, 16, 16)
	r.lies(3, 0, 0, "new")
	r.counts("room was made", 2, 2, 15)
	r.crash(true)
	delete(want, 0)
	r.says("told by Reclaim", want)
}

// TestWriteErrors: 8.2, where several errors apply, the one that is told first.
func TestWriteErrors(t *testing.T) {
	r := newRig(t)
	long := strings.Repeat("l", 81)
	for _, cell := range noCells {
		for _, text := range []string{"", "a", long} {
			r.untouched("no cell", func() {
				must(t, fmt.Sprint("Write ", cell), r.v.Write(cell, text), api.ErrRange)
			})
		}
	}
	r.d.Fuse(0)
	must(t, "Write of no cell, the fuse spent", r.v.Write(-1, long), api.ErrRange)
	must(t, "Write of a long text, the fuse spent", r.v.Write(0, long), api.ErrLimit)
	r.d.Fuse(-1)
	r.write(0, "it works yet")
	r.d.Fuse(0)
	must(t, "Write, the fuse spent", r.v.Write(0, "a"), api.ErrDevice)
	r.stopped("Write")
}

// TestReserve: 8.2, a zone is emptied first if Free is at most Reserve, and not if it is one more.
func TestReserve(t *testing.T) {
	cells := map[int]place{0: {0, 0}, 1: {0, 1}, 2: {1, 5}, 3: {1, 6}, 4: {2, 0}, 5: {2, 15}, 6: {3, 1}, 7: {3, 2}, 8: {4, 9}, 9: {5, 1}, 10: {5, 2}, 11: {6, 0}}
	for free := 1; free <= 40; free++ {
		at := [8]int{16, 16, 16, 16, 16, 16, 16, 16}
		at[7] = 16 - min(free, 16)
		at[6] = 16 - max(free-16, 0)
		if at[6] < 1 {
			break
		}
		r := forged(t, at, cells)
		r.counts("forged", 1, 1, free)
		r.write(20, "new", 8, "cell 8")
		r.says("written", with(numbers(cells), 20, "new"))
		first := 7
		if at[6] < 16 {
			first = 6
		}
		if free > api.Reserve {
			r.counts(fmt.Sprint("Free at ", free), 1, 1, free-1)
			r.lies(first, at[first], 20, "new")
			continue
		}
		// Of full zones zone 4 has the fewest cells, and is the first one of these: cell 8 is moved.
		r.counts(fmt.Sprint("Free at ", free), 2, 2, free-1+16-1)
		r.lies(first, at[first], 8, "cell 8")
		r.lies(4, 0, 20, "new")
		r.crash(false)
		r.says("told by Reclaim", numbers(cells))
	}
}

// TestReserveNoneFull: 8.2, when Reclaim tells that no zone is full, the text is put all the same, and nothing is told.
func TestReserveNoneFull(t *testing.T) {
	r := forged(t, [8]int{15, 14, 15, 15, 14, 14, 15, 15}, map[int]place{0: {0, 0}})
	r.counts("forged", 1, 1, 11)
	image := r.d.Image()
	r.d.Fuse(1)
	r.write(20, "new")
	r.counts("written", 1, 1, 10)
	r.lies(0, 15, 20, "new")
	if !reflect.DeepEqual(r.d.Image(), image) {
		t.Error("something became sure")
	}
	r.d.Fuse(-1)
	// Zone 0 is full now, and the least of those that are: its two cells are moved.
	r.write(21, "newer")
	r.counts("written", 2, 2, 10+16-2-1)
	r.lies(1, 14, 0, "cell 0")
	r.lies(1, 15, 20, "new")
	r.lies(0, 0, 21, "newer")
}

// TestWriteMovesItself: 8.2, a cell that lies in the zone that is emptied is moved as it was, told so, and written then.
func TestWriteMovesItself(t *testing.T) {
	r := forged(t, [8]int{16, 16, 16, 16, 16, 16, 16, 0}, map[int]place{0: {0, 0}, 1: {1, 1}, 2: {2, 2}, 3: {3, 3}, 4: {4, 4}, 5: {5, 5}, 6: {6, 6}})
	r.write(0, "other")
	r.lies(7, 0, 0, "cell 0")
	r.lies(0, 0, 0, "other")
	r.stands("written", 1, 16, 16, 16, 16, 16, 16, 1)
	r.crash(true)
	if s, _ := r.v.Read(0); s != "cell 0" || r.v.Count() != 2 {
		t.Errorf("told: %q, Count %d", s, r.v.Count())
	}
}

// crowded is a volume of which one more block is free, in zone 7, but whose full zones have two cells each.
func crowded(t *testing.T) (*rig, map[int]string) {
	t.Helper()
	cells := map[int]place{}
	for z := range 7 {
		cells[2*z] = place{z, 3}
		cells[2*z+1] = place{z, 1}
	}
	return forged(t, [8]int{16, 16, 16, 16, 16, 16, 16, 15}, cells), numbers(cells)
}

// TestNoRoomToMove: 8.2 and 8.3, cells for which there is no room elsewhere: ErrFull, of Reclaim and of a Write, though there would be room for its text; nothing is told or emptied, and all cells say what they said, opened again, too.
func TestNoRoomToMove(t *testing.T) {
	for _, write := range []bool{true, false} {
		r, want := crowded(t)
		if write {
			must(t, "Write", r.v.Write(20, "new"), api.ErrFull)
		} else {
			r.refused("Reclaim", api.ErrFull)
		}
		r.says("behind ErrFull", want)
		r.counts("behind ErrFull", 1, 1, 0)
		r.stands("behind ErrFull", 16, 16, 16, 16, 16, 16, 16, 16)
		r.lies(7, 15, 0, "cell 0")
		must(t, "Write again", r.v.Write(20, "new"), api.ErrFull)
		// A cell that was moved ahead of the error lies there: this is told, and zone 0 has no cell then.
		r.flush()
		r.crash(false)
		r.says("opened again", want)
		r.counts("opened again", 2, 2, 0)
		r.write(1, "")
		r.reclaim(0)
		r.stands("emptied", 0, 16, 16, 16, 16, 16, 16, 16)
		r.crash(false)
		delete(want, 1)
		r.says("emptied", want)
	}
}

// TestReadAhead: 8.2, what is written is read at once, and told at the next Flush: without one all of it is lost, whatever the device keeps.
func TestReadAhead(t *testing.T) {
	for _, all := range []bool{true, false} {
		r := newRig(t)
		r.write(0, "a", 1, "b", 2, "c")
		r.flush()
		told := map[int]string{0: "a", 1: "b", 2: "c"}
		r.write(0, "A", 1, "", 2, "C", 2, "CC", 3, "D", 0, "a")
		r.says("at once", map[int]string{0: "a", 2: "CC", 3: "D"})
		r.counts("at once", 1, 1, 128-3-5)
		r.crash(all)
		r.says("lost", told)
		r.write(0, "A", 1, "", 2, "C", 2, "CC", 3, "D")
		r.flush()
		r.says("flushed", map[int]string{0: "A", 2: "CC", 3: "D"})
		r.crash(all)
		r.says("told", map[int]string{0: "A", 2: "CC", 3: "D"})
	}
}

// TestFlushSlots: 8.2, of which Count a table is, in which slot it stands, that the other one stays, and that the counter is as far; also when nothing was written.
func TestFlushSlots(t *testing.T) {
	r := newRig(t)
	var x api.Table
	for n := 1; n < 9; n++ {
		if n%3 > 0 {
			text := fmt.Sprint("text ", n)
			at := r.at()
			r.write(n, text)
			x.Cells[n] = api.Cell{Zone: 0, Off: at[0], Tag: block(t, secret, n, text)[:16]}
		}
		was := r.d.Image()
		r.flush()
		x.Count = n
		r.counts("flushed", n, n, r.v.Free())
		m := r.d.Image()
		if m.Slots[n%2] != slot(t, secret, x) {
			t.Fatalf("slot %d is not the table of Count %d", n%2, n)
		}
		if m.Slots[1-n%2] != was.Slots[1-n%2] {
			t.Fatalf("slot %d was changed at Count %d", 1-n%2, n)
		}
		if !reflect.DeepEqual(m, r.view()) {
			t.Fatal("something is not sure behind a Flush")
		}
	}
}

// TestFlushDeeds: 8.2, a Fuse that is spent at each of a Flush's deeds: what was done ahead of it, and ErrState behind it.
func TestFlushDeeds(t *testing.T) {
	for fuse := range 5 {
		r := newRig(t)
		r.write(7, "cell 7")
		r.flush()
		r.write(8, "eight")
		image := r.d.Image()
		r.d.Fuse(fuse)
		err := r.v.Flush()
		blocks, written, sure := len(r.d.Image().Zones[0]), r.view().Slots[0] != image.Slots[0], r.d.Image().Slots[0] != image.Slots[0]
		if (blocks == 2) != (fuse > 0) || written != (fuse > 1) || sure != (fuse > 2) {
			t.Errorf("fuse %d: %d blocks are sure, the slot is written: %v, sure: %v", fuse, blocks, written, sure)
		}
		r.says("flushed or not", map[int]string{7: "cell 7", 8: "eight"})
		if fuse > 2 {
			must(t, "Flush", err, api.OK)
			r.counts("flushed", 2, 2, 126)
			r.d.Fuse(-1)
			r.write(9, "goes on")
			continue
		}
		must(t, fmt.Sprint("Flush, fuse ", fuse), err, api.ErrDevice)
		r.counts("not flushed", 1, 1, 126)
		r.stopped("Flush")
	}
}

// TestWriteDeeds: 8.2, a Write is one deed; one that empties a zone is the deeds of that ahead of it, each of which may be the last one.
func TestWriteDeeds(t *testing.T) {
	cells := map[int]place{7: {0, 3}, 2: {0, 9}, 3: {1, 0}, 4: {1, 1}, 5: {1, 2}, 6: {1, 3}}
	at := [8]int{16, 16, 16, 16, 16, 16, 13, 0}
	for z := 2; z < 6; z++ {
		for i := range 3 {
			cells[8+3*(z-2)+i] = place{z, i}
		}
	}
	// Zone 0 is emptied: two cells, a Flush, the Reset; then the text is put.
	const deeds = 2 + 3 + 1 + 1
	for fuse := range deeds + 2 {
		r := forged(t, at, cells)
		r.d.Fuse(fuse)
		err := r.v.Write(20, "new")
		stand := []int{16, 16, 16, 16, 16, 16, 13 + min(fuse, 2), 0}
		if fuse > 5 {
			stand[0] = 0
		}
		want := numbers(cells)
		if fuse >= deeds {
			must(t, "Write", err, api.OK)
			stand[0] = 1
			want[20] = "new"
		} else {
			must(t, fmt.Sprint("Write, fuse ", fuse), err, api.ErrDevice)
		}
		r.stands(fmt.Sprint("fuse ", fuse), stand...)
		r.says("written or not", want)
		count := 1
		if fuse > 4 {
			count = 2
		}
		r.counts(fmt.Sprint("fuse ", fuse), count, count, r.v.Free())
		if fuse < deeds {
			r.stopped("Write")
		}
	}
}

// TestFlushRaised: a counter that others raised does not take the volume's number: that is not told to be so.
func TestFlushRaised(t *testing.T) {
	r := newRig(t)
	r.write(0, "a")
	r.flush()
	must(t, "Raise", r.c.Raise(2), api.OK)
	must(t, "Flush", r.v.Flush(), api.ErrOrder)
	r.counts("raised by others", 1, 2, 127)
	r.says("raised by others", map[int]string{0: "a"})
}

// TestFlushLast: behind the last number that a table may have (6.1) nothing is told, and what was told stays.
func TestFlushLast(t *testing.T) {
	r := raised(t, 1<<40)
	r.lay(1<<40, 0, 0, map[int]string{0: "last"})
	r.open()
	r.write(1, "more")
	must(t, "Flush", r.v.Flush(), api.ErrArg)
	r.counts("the last number", 1<<40, 1<<40, 126)
	r.crash(true)
	r.says("opened again", map[int]string{0: "last"})
}

// TestReclaimNone: 8.3, no zone is full: 0, false, and nothing is done, also when few blocks are free.
func TestReclaimNone(t *testing.T) {
	for _, at := range [][8]int{{}, {15}, {15, 15, 15, 15, 15, 15, 15, 15}, {1, 0, 15}} {
		r := forged(t, at, nil)
		if at[0] > 0 {
			r = forged(t, at, map[int]place{3: {0, 0}})
		}
		r.d.Fuse(0)
		r.untouched("no zone is full", func() {
			if n, ok, err := r.v.Reclaim(); n != 0 || ok || err != nil {
				t.Errorf("Reclaim: %d, %v, %v", n, ok, err)
			}
		})
		r.d.Fuse(-1)
		r.write(3, "it works yet")
	}
}

// TestReclaimMoves: 8.3, a full zone in which no cell lies, one, several, or as many as it has blocks; cells are moved rising, whichever way they lie, to the first zones that have room.
func TestReclaimMoves(t *testing.T) {
	all := map[int]place{}
	for i := range 16 {
		all[23-i] = place{0, i}
	}
	cases := []struct {
		at    [8]int
		cells map[int]place
		zone  int     // the one that is emptied
		to    []place // where its cells are then, rising
	}{
		{[8]int{16}, nil, 0, nil},
		{[8]int{16}, map[int]place{5: {0, 7}}, 0, []place{{1, 0}}},
		{[8]int{0, 0, 0, 0, 0, 0, 0, 16}, map[int]place{0: {7, 15}}, 7, []place{{0, 0}}},
		{[8]int{3, 16}, map[int]place{0: {0, 1}, 23: {1, 0}}, 1, []place{{0, 3}}},
		{[8]int{16, 14}, map[int]place{9: {0, 0}, 2: {0, 15}, 5: {0, 7}, 23: {0, 1}, 0: {0, 14}}, 0, []place{{1, 14}, {1, 15}, {2, 0}, {2, 1}, {2, 2}}},
		{[8]int{16}, all, 0, []place{{1, 0}, {1, 1}, {1, 2}, {1, 3}, {1, 4}, {1, 5}, {1, 6}, {1, 7}, {1, 8}, {1, 9}, {1, 10}, {1, 11}, {1, 12}, {1, 13}, {1, 14}, {1, 15}}},
		{[8]int{15, 15, 15, 16, 15}, map[int]place{1: {3, 3}, 2: {3, 2}, 3: {3, 1}, 4: {0, 0}}, 3, []place{{0, 15}, {1, 15}, {2, 15}}},
		// Of full zones the first of those with the least; zones with less that are not full are none.
		{[8]int{16, 16, 16}, map[int]place{1: {0, 0}, 2: {0, 1}, 3: {1, 0}, 4: {2, 0}}, 1, []place{{3, 0}}},
		{[8]int{16, 16, 16}, map[int]place{1: {0, 0}, 3: {1, 0}}, 2, nil},
		{[8]int{16, 16, 15}, map[int]place{1: {0, 0}, 3: {1, 0}}, 0, []place{{2, 15}}},
		{[8]int{16, 16}, nil, 0, nil},
		// Nothing is free, and no room is needed.
		{allFull, map[int]place{0: {0, 0}, 1: {1, 0}, 2: {2, 0}, 3: {3, 0}, 4: {4, 0}, 5: {5, 0}, 7: {7, 0}}, 6, nil},
	}
	for i, x := range cases {
		r := forged(t, x.at, x.cells)
		stand := x.at
		r.reclaim(len(x.to))
		n := 0
		for cell := range 24 {
			if p, ok := x.cells[cell]; ok && p.zone == x.zone {
				r.lies(x.to[n].zone, x.to[n].off, cell, fmt.Sprint("cell ", cell))
				stand[x.to[n].zone]++
				n++
			}
		}
		stand[x.zone] = 0
		r.stands(fmt.Sprint("case ", i), stand[:]...)
		r.counts(fmt.Sprint("case ", i), 2, 2, r.v.Free())
		r.says("moved", numbers(x.cells))
		r.crash(false)
		r.says("opened again", numbers(x.cells))
		r.counts("opened again", 2, 2, r.v.Free())
	}
}

// TestReclaimTells: 8.3, what was written ahead is told by Reclaim, and counts in what lies where.
func TestReclaimTells(t *testing.T) {
	r := forged(t, [8]int{16, 16}, map[int]place{0: {0, 0}, 1: {1, 0}, 2: {1, 1}})
	r.write(1, "", 2, "two", 3, "three")
	r.reclaim(0)
	r.stands("zone 1 is emptied", 16, 0, 2, 0, 0, 0, 0, 0)
	want := map[int]string{0: "cell 0", 2: "two", 3: "three"}
	r.says("told", want)
	r.crash(false)
	r.says("opened again", want)
	r.write(0, "zero")
	r.reclaim(0)
	want[0] = "zero"
	r.crash(false)
	r.says("opened again", want)
	r.counts("opened again", 3, 3, 128-3)
	r.stands("zone 0 is emptied", 0, 1, 2, 0, 0, 0, 0, 0)
}

// TestReclaimDeeds: 8.3, a Fuse that is spent at each deed: each cell that is moved, the Flush's three, the Reset.
func TestReclaimDeeds(t *testing.T) {
	for cells := range 4 {
		for fuse := range cells + 6 {
			reclaimFused(t, cells, fuse)
		}
	}
}

// reclaimFused empties zone 0, in which so many cells lie, with a fuse.
func reclaimFused(t *testing.T, cells, fuse int) {
	t.Helper()
	what := fmt.Sprint(cells, " cells, fuse ", fuse)
	lie := map[int]place{20: {1, 1}}
	for i := range cells {
		lie[5+2*i] = place{0, 9 - i}
	}
	r := forged(t, [8]int{16, 2}, lie)
	was := r.d.Image()
	r.d.Fuse(fuse)
	n, ok, err := r.v.Reclaim()

	synced, written, told, emptied := fuse > cells, fuse > cells+1, fuse > cells+2, fuse > cells+3
	stand, count := []int{16, 2 + min(fuse, cells), 0, 0, 0, 0, 0, 0}, 1
	if told {
		count = 2
	}
	if emptied {
		stand[0] = 0
	}
	r.stands(what, stand...)
	r.counts(what, count, count, r.v.Free())
	r.says(what, numbers(lie))
	sure := r.d.Image()
	if synced && len(sure.Zones[1]) != 2+cells || !synced && len(sure.Zones[1]) != 2 {
		t.Fatalf("%s: %d blocks of zone 1 are sure", what, len(sure.Zones[1]))
	}
	if (r.view().Slots[0] != was.Slots[0]) != written || (sure.Slots[0] != was.Slots[0]) != told {
		t.Fatalf("%s: the table is not as written, or as sure, as it must be", what)
	}
	if emptied {
		must(t, what, err, api.OK)
	} else {
		must(t, what, err, api.ErrDevice)
		cells = 0
		r.stopped(what)
	}
	if n != cells || ok != emptied {
		t.Fatalf("%s: Reclaim: %d, %v", what, n, ok)
	}
}

// TestReclaimAlways: 8.2 and 8.3, there is always room: all cells are written anew again and again, told now and then, and none is ever refused.
func TestReclaimAlways(t *testing.T) {
	r := newRig(t)
	want := map[int]string{}
	for i := range 1500 {
		cell, text := i*7%24, fmt.Sprint("text ", i)
		r.write(cell, text)
		want[cell] = text
		if i%61 == 0 {
			r.flush()
			r.crash(i%2 == 0)
		}
		if r.v.Free() < 1 {
			t.Fatal("nothing is free")
		}
	}
	r.says("written", want)
	r.flush()
	r.crash(false)
	r.says("told", want)
}
