package volume

import (
	"fmt"
	"math"
	"reflect"
	"slices"
	"strings"
	"testing"

	"saltern/api"
	"saltern/meter"
	"saltern/plain"
	"saltern/seal"
	"saltern/table"
	"saltern/zone"
)

// The heads are given: this does not build with others.
var (
	_ func(*zone.Device, *meter.Counter, string) (*Volume, error) = Open
	_ func(*Volume) int                                           = (*Volume).Count
	_ func(*Volume) int                                           = (*Volume).Free
	_ func(*Volume, int) (string, error)                          = (*Volume).Read
	_ func(*Volume, int, string) error                            = (*Volume).Write
	_ func(*Volume) error                                         = (*Volume).Flush
	_ func(*Volume) (int, bool, error)                            = (*Volume).Reclaim
)

const (
	secret = "0123456789abcdef"
	other  = "0123456789abcdeF"
	sealed = 109 // bytes of a block that Seal tells; 0 stands behind them
)

// noCells are numbers that no cell has.
var noCells = []int{-1, -2, math.MinInt, api.Cells, api.Cells + 1, 1 << 32, math.MaxInt}

// rig is a volume, and what it stands on.
type rig struct {
	*testing.T
	d *zone.Device
	c *meter.Counter
	v *Volume
}

// newRig is a volume on a new device.
func newRig(t *testing.T) *rig {
	t.Helper()
	r := &rig{t, zone.New(), &meter.Counter{}, nil}
	r.open()
	return r
}

// must holds an error to be the one that is asked for, in its plain form.
func must(t *testing.T, what string, err error, want api.Errno) {
	t.Helper()
	if e, place := plain.Place(err); e != want || place != -1 {
		t.Fatalf("%s: error %v (place %d), not %v", what, err, place, want)
	}
}

// open opens the volume again.
func (r *rig) open() {
	r.Helper()
	v, err := Open(r.d, r.c, secret)
	must(r.T, "Open", err, api.OK)
	r.v = v
}

// spoilt holds Open to tell ErrSpoilt, no volume beside it, and to leave the counter and the device as they were.
func (r *rig) spoilt(what string) {
	r.Helper()
	count, image := r.c.Get(), r.d.Image()
	v, err := Open(r.d, r.c, secret)
	must(r.T, what+": Open", err, api.ErrSpoilt)
	if v != nil || r.c.Get() != count || !reflect.DeepEqual(r.d.Image(), image) {
		r.Fatalf("%s: Open told a volume (%v), or changed the counter (%d to %d) or the device", what, v, count, r.c.Get())
	}
}

// crash is power that is lost: of blocks and of slots all that is not sure is kept, or nothing; and the volume is opened.
func (r *rig) crash(all bool) {
	r.Helper()
	if all {
		r.d.Crash(slices.Repeat([]int{api.Cap}, api.Zones), []bool{true, true, true, true})
	} else {
		r.d.Crash(nil, nil)
	}
	r.open()
}

// write writes texts that must be taken: cell, text, cell, text ..
func (r *rig) write(l ...any) {
	r.Helper()
	for i := 0; i < len(l); i += 2 {
		must(r.T, fmt.Sprint("Write ", l[i]), r.v.Write(l[i].(int), l[i+1].(string)), api.OK)
	}
}

func (r *rig) flush() {
	r.Helper()
	must(r.T, "Flush", r.v.Flush(), api.OK)
}

// junk appends blocks that are no cell's to a zone, and makes them sure.
func (r *rig) junk(zone, blocks int) {
	r.Helper()
	for i := range blocks {
		_, err := r.d.Append(zone, fmt.Sprint("junk ", zone, i))
		must(r.T, "Append of junk", err, api.OK)
	}
	must(r.T, "Sync of junk", r.d.Sync(), api.OK)
}

// says holds all cells to what they say; those that are not told say nothing.
func (r *rig) says(what string, want map[int]string) {
	r.Helper()
	if got := says(r.T, r.v); !reflect.DeepEqual(got, want) {
		r.Fatalf("%s: cells say %v, not %v", what, got, want)
	}
}

// says are the cells that say something.
func says(t *testing.T, v *Volume) map[int]string {
	t.Helper()
	out := map[int]string{}
	for i := range 24 {
		s, err := v.Read(i)
		must(t, "Read", err, api.OK)
		if s != "" {
			out[i] = s
		}
	}
	return out
}

// counts holds the volume's Count, its counter, and Free.
func (r *rig) counts(what string, count, counter, free int) {
	r.Helper()
	if r.v.Count() != count || r.c.Get() != counter || r.v.Free() != free {
		r.Fatalf("%s: Count %d, counter %d, Free %d, not %d, %d, %d", what, r.v.Count(), r.c.Get(), r.v.Free(), count, counter, free)
	}
}

// at are how many blocks each zone has.
func (r *rig) at() []int {
	var out []int
	for z := range 8 {
		n, err := r.d.At(z)
		must(r.T, "At", err, api.OK)
		out = append(out, n)
	}
	return out
}

// stands holds zones to how many blocks they have.
func (r *rig) stands(what string, want ...int) {
	r.Helper()
	if got := r.at(); !slices.Equal(got, want) {
		r.Fatalf("%s: zones have %v blocks, not %v", what, got, want)
	}
}

// lies holds a block of the device to be a cell's text, sealed.
func (r *rig) lies(zone, off, cell int, text string) {
	r.Helper()
	got, err := r.d.Read(zone, off)
	must(r.T, "Read of a block", err, api.OK)
	if got != block(r.T, secret, cell, text) {
		r.Fatalf("block %d, %d is not cell %d's %q", zone, off, cell, text)
	}
}

// key is a secret's.
func key(t *testing.T, secret string, use byte) string {
	t.Helper()
	k, err := meter.Key(secret, use)
	must(t, "Key", err, api.OK)
	return k
}

// block is a cell's text, sealed, as a device has it.
func block(t *testing.T, secret string, cell int, text string) string {
	t.Helper()
	s, err := seal.Seal(key(t, secret, 'b'), cell, text)
	must(t, "Seal", err, api.OK)
	return s + strings.Repeat("\x00", 128-len(s))
}

// slot is a table, as a device has it.
func slot(t *testing.T, secret string, x api.Table) string {
	t.Helper()
	s, err := table.Write(key(t, secret, 't'), x)
	must(t, "Write of a table", err, api.OK)
	return s + strings.Repeat("\x00", 500-len(s))
}

// lay lets a zone's next blocks be cells' texts, and writes the table of that to a slot: it is told without the volume.
func (r *rig) lay(count, zone, slotNumber int, texts map[int]string) api.Table {
	r.Helper()
	x := api.Table{Count: count}
	for i := range 24 {
		if texts[i] == "" {
			continue
		}
		s := block(r.T, secret, i, texts[i])
		off, err := r.d.Append(zone, s)
		must(r.T, "Append", err, api.OK)
		x.Cells[i] = api.Cell{Zone: zone, Off: off, Tag: s[:16]}
	}
	r.put(slotNumber, slot(r.T, secret, x))
	return x
}

func (r *rig) put(slot int, s string) {
	r.Helper()
	must(r.T, "Put", r.d.Put(slot, s), api.OK)
	must(r.T, "Sync", r.d.Sync(), api.OK)
}

// raised is a rig without a volume, whose counter is at a number.
func raised(t *testing.T, n int) *rig {
	t.Helper()
	return &rig{t, zone.New(), counterAt(t, n), nil}
}

func counterAt(t *testing.T, n int) *meter.Counter {
	t.Helper()
	c := &meter.Counter{}
	if n > 0 {
		must(t, "Raise", c.Raise(n), api.OK)
	}
	return c
}

// TestOpenArg: 8.1, a device or a counter that is nil, and secrets of another length.
func TestOpenArg(t *testing.T) {
	d, c := zone.New(), &meter.Counter{}
	long := strings.Repeat("s", 40)
	cases := []struct {
		what string
		d    *zone.Device
		c    *meter.Counter
		s    string
		want api.Errno
	}{
		{"no device", nil, c, secret, api.ErrArg},
		{"no counter", d, nil, secret, api.ErrArg},
		{"neither", nil, nil, secret, api.ErrArg},
		{"nothing at all", nil, nil, "", api.ErrArg},
		{"a secret of 0 bytes", d, c, "", api.ErrArg},
		{"a secret of 1 byte", d, c, long[:1], api.ErrArg},
		{"a secret of 15 bytes", d, c, long[:15], api.ErrArg},
		{"a secret of 16 bytes", d, c, long[:16], api.OK},
		{"a secret of 16 bytes 0", d, c, strings.Repeat("\x00", 16), api.OK},
		{"a secret of 17 bytes", d, c, long[:17], api.ErrArg},
		{"a secret of 32 bytes", d, c, long[:32], api.ErrArg},
	}
	for _, x := range cases {
		v, err := Open(x.d, x.c, x.s)
		must(t, x.what, err, x.want)
		if (v == nil) != (x.want != api.OK) {
			t.Errorf("%s: volume %v", x.what, v)
		}
	}
	// ErrArg is told ahead of ErrSpoilt.
	r := raised(t, 3)
	_, err := Open(r.d, r.c, secret[:15])
	must(t, "a short secret, of what is spoilt", err, api.ErrArg)
	r.spoilt("a counter at 3, and no table")
}

// TestOpenNew: 8.1, a new device, also one that is a zero value; the counter stays at 0.
func TestOpenNew(t *testing.T) {
	for _, d := range []*zone.Device{zone.New(), {}} {
		r := &rig{t, d, &meter.Counter{}, nil}
		r.open()
		r.counts("a new volume", 0, 0, 128)
		r.says("a new volume", map[int]string{})
		if n, ok, err := r.v.Reclaim(); n != 0 || ok || err != nil {
			t.Errorf("Reclaim of a new volume: %d, %v, %v", n, ok, err)
		}
	}
}

// TestReadRange: 8.1, cells that there are not, of a new volume, of one that says something, of one whose device failed; "" stands beside the error.
func TestReadRange(t *testing.T) {
	r := newRig(t)
	asked := func(what string) {
		for _, cell := range noCells {
			s, err := r.v.Read(cell)
			must(t, fmt.Sprint(what, ": Read ", cell), err, api.ErrRange)
			if s != "" {
				t.Errorf("%s: Read %d: %q beside an error", what, cell, s)
			}
		}
	}
	asked("a new volume")
	r.write(0, "first", 23, "last", 12, "")
	asked("a written volume")
	r.says("written", map[int]string{0: "first", 23: "last"})
	r.flush()
	r.d.Fuse(0)
	must(t, "Flush", r.v.Flush(), api.ErrDevice)
	asked("a failed volume")
	r.says("failed", map[int]string{0: "first", 23: "last"})
}

// TestReadAgain: 8.1 and 8.2, a cell that said something ahead and says nothing now, ahead of a Flush and behind it, opened again.
func TestReadAgain(t *testing.T) {
	r := newRig(t)
	r.write(0, "a", 5, "b", 23, "c")
	r.flush()
	r.write(0, "", 23, "")
	r.says("ahead of the Flush", map[int]string{5: "b"})
	r.crash(true)
	r.says("not told", map[int]string{0: "a", 5: "b", 23: "c"})
	r.write(0, "", 23, "")
	r.flush()
	r.says("behind the Flush", map[int]string{5: "b"})
	r.crash(false)
	r.says("told", map[int]string{5: "b"})
	r.write(0, "a")
	r.flush()
	r.crash(false)
	r.says("said again", map[int]string{0: "a", 5: "b"})
	r.counts("said again", 3, 3, 128-4)
}

// TestOpenCount: 8.1, which table is taken, by the counter and what stands in the slots.
func TestOpenCount(t *testing.T) {
	type stand struct{ count, slot int }
	cases := []struct {
		counter int
		tables  []stand
		want    int // the count that is taken; below 0: ErrSpoilt
	}{
		{0, nil, 0},
		{0, []stand{{1, 1}}, 1},
		{0, []stand{{1, 1}, {2, 0}}, 1},
		{0, []stand{{2, 0}}, 0},
		{0, []stand{{1, 0}}, 0}, // not in its slot
		{0, []stand{{3, 1}}, 0},
		{1, nil, -1},
		{1, []stand{{1, 1}}, 1},
		{1, []stand{{1, 1}, {2, 0}}, 2},
		{1, []stand{{2, 0}}, 2},
		{1, []stand{{1, 0}}, -1},
		{5, nil, -1},
		{5, []stand{{6, 0}}, 6},
		{5, []stand{{6, 0}, {5, 1}}, 6},
		{5, []stand{{5, 1}}, 5},
		{5, []stand{{5, 1}, {4, 0}}, 5},
		{5, []stand{{4, 0}}, -1}, // an elder one alone
		{5, []stand{{4, 0}, {3, 1}}, -1},
		{5, []stand{{7, 1}}, -1}, // two above it
		{5, []stand{{7, 1}, {8, 0}}, -1},
		{5, []stand{{6, 1}}, -1},
		{5, []stand{{5, 0}}, -1},
		{5, []stand{{5, 0}, {6, 1}}, -1},
		{6, []stand{{6, 0}, {5, 1}}, 6},
		{6, []stand{{6, 0}, {7, 1}}, 7},
		{6, []stand{{5, 1}}, -1},
		{1<<40 - 1, []stand{{1 << 40, 0}}, 1 << 40},
		{1 << 40, []stand{{1 << 40, 0}}, 1 << 40},
		{1<<40 + 1, []stand{{1 << 40, 0}}, -1},
		{math.MaxInt, []stand{{1, 1}, {2, 0}}, -1}, // one above it is below 0
		{math.MaxInt - 1, nil, -1},
	}
	for _, x := range cases {
		what := fmt.Sprint("counter ", x.counter, ", tables ", x.tables)
		r := raised(t, x.counter)
		for i, s := range x.tables {
			r.lay(s.count, i, s.slot, map[int]string{0: fmt.Sprint("told ", s.count), 23: "end"})
		}
		if x.want < 0 {
			r.spoilt(what)
			continue
		}
		r.open()
		r.counts(what, x.want, max(x.want, x.counter), 128-2*len(x.tables))
		want := map[int]string{}
		if x.want > 0 {
			want = map[int]string{0: fmt.Sprint("told ", x.want), 23: "end"}
		}
		r.says(what, want)
	}
}

// broken are ways in which a table that was told is not WHOLE any more. Each is handed the image, and what stands in it.
func broken(t *testing.T, x api.Table, cell int, text string) map[string]func(m *api.Image) {
	c, n := x.Cells[cell], x.Count%2
	swap := func(s string) func(m *api.Image) {
		return func(m *api.Image) { m.Zones[c.Zone][c.Off] = s }
	}
	retold := func(change func(y *api.Table)) func(m *api.Image) {
		y := x
		change(&y)
		return func(m *api.Image) { m.Slots[n] = slot(t, secret, y) }
	}
	return map[string]func(m *api.Image){
		"no block":             func(m *api.Image) { m.Zones[c.Zone] = m.Zones[c.Zone][:c.Off] },
		"no zone":              func(m *api.Image) { m.Zones[c.Zone] = nil },
		"block of 0":           swap(""),
		"another text":         swap(block(t, secret, cell, text+"!")),
		"an empty text":        swap(block(t, secret, cell, "")),
		"another cell's":       swap(block(t, secret, (cell+1)%24, text)),
		"another secret's":     swap(block(t, other, cell, text)),
		"blocks in each other": func(m *api.Image) { l := m.Zones[c.Zone]; l[c.Off], l[15] = l[15], l[c.Off] },
		"another tag":          retold(func(y *api.Table) { y.Cells[cell].Tag = "a tag, 16 bytes." }),
		"another off":          retold(func(y *api.Table) { y.Cells[cell].Off = 15 }),
		"another zone":         retold(func(y *api.Table) { y.Cells[cell].Zone = (c.Zone + 1) % 8 }),
		"no table":             func(m *api.Image) { m.Slots[n] = "" },
		"another secret's key": func(m *api.Image) { m.Slots[n] = slot(t, other, x) },
		"the key of blocks": func(m *api.Image) {
			m.Slots[n], _ = table.Write(key(t, secret, 'b'), x)
		},
		"a byte behind the table": func(m *api.Image) { m.Slots[n] = m.Slots[n][:499] + "\x01" },
		"sealed by the tables' key": func(m *api.Image) {
			s, _ := seal.Seal(key(t, secret, 't'), cell, text)
			m.Zones[c.Zone][c.Off] = s
			y := x
			y.Cells[cell].Tag = s[:16]
			m.Slots[n] = slot(t, secret, y)
		},
	}
}

// TestWhole: 8.1, a table one of whose blocks is missing, or another one: it is not taken, as the one above the counter or as the counter's, whichever cell it is of.
func TestWhole(t *testing.T) {
	texts := map[int]string{0: "zero", 1: "one", 11: "eleven", 23: "last"}
	for cell, text := range texts {
		for counter := range 3 {
			r := raised(t, counter)
			elder := map[int]string{}
			if counter > 0 {
				elder = map[int]string{0: "zero", 2: "elder"}
				r.lay(counter, 6, counter%2, elder)
			}
			next := r.lay(counter+1, 2, (counter+1)%2, texts)
			r.junk(2, 12)
			image := r.d.Image()
			for harm, do := range broken(t, next, cell, text) {
				what := fmt.Sprint(harm, " of cell ", cell, " and count ", counter+1)
				m := copied(image)
				do(&m)
				r.d.Lay(m)
				r.c = counterAt(t, counter)
				r.open()
				r.says(what, elder)
				r.counts(what, counter, counter, r.v.Free())
				r.c = counterAt(t, counter+1)
				r.spoilt(what + ", the counter's")
			}
			for _, n := range []int{counter, counter + 1} {
				r.d.Lay(image)
				r.c = counterAt(t, n)
				r.open()
				r.says("unharmed", texts)
				r.counts("unharmed", counter+1, counter+1, r.v.Free())
			}
		}
	}
}

// copied is an image that shares no list with another one.
func copied(m api.Image) api.Image {
	for z := range m.Zones {
		m.Zones[z] = slices.Clone(m.Zones[z])
	}
	return m
}

// TestOpenNothingDone: 8.1 tells no deed of the device: Open takes nothing off a fuse, works when it is spent, and makes nothing sure.
func TestOpenNothingDone(t *testing.T) {
	r := newRig(t)
	r.write(3, "three")
	r.flush()
	r.write(4, "four")
	image := r.d.Image()
	r.d.Fuse(0)
	r.open()
	r.says("of what was told", map[int]string{3: "three"})
	if !reflect.DeepEqual(r.d.Image(), image) {
		t.Error("Open made something sure")
	}
	r.d.Fuse(1)
	r.open()
	r.write(5, "five")
	must(t, "Write behind the fuse", r.v.Write(6, "six"), api.ErrDevice)
}

// TestFree: 8.1, Free of the device's zones, also of what others write to it.
func TestFree(t *testing.T) {
	r := newRig(t)
	for i := range 20 {
		r.counts("behind writes", 0, 0, 128-i)
		r.write(i, "x")
	}
	r.junk(7, 16)
	r.junk(5, 3)
	r.counts("behind junk", 0, 0, 128-20-19)
	must(t, "Reset", r.d.Reset(7), api.OK)
	r.counts("behind a Reset", 0, 0, 128-20-3)
	r.crash(false)
	r.counts("opened again", 0, 0, 128-20-3) // what junk's Sync made sure
}

// TestZeroValue: P1, a volume that is a zero value, or nil, has no device: nothing is free, no cell says anything, and nothing is done.
func TestZeroValue(t *testing.T) {
	for _, v := range []*Volume{{}, nil} {
		for range 2 {
			if v.Count() != 0 || v.Free() != 0 {
				t.Errorf("Count %d, Free %d", v.Count(), v.Free())
			}
			if got := says(t, v); len(got) > 0 {
				t.Errorf("cells say %v", got)
			}
			for _, cell := range noCells {
				_, err := v.Read(cell)
				must(t, "Read", err, api.ErrRange)
			}
			must(t, "Write", v.Write(0, "a"), api.ErrState)
			must(t, "Write", v.Write(-1, ""), api.ErrState)
			must(t, "Flush", v.Flush(), api.ErrState)
			n, ok, err := v.Reclaim()
			must(t, "Reclaim", err, api.ErrState)
			if n != 0 || ok {
				t.Errorf("Reclaim: %d, %v beside an error", n, ok)
			}
		}
	}
}

// TestSecrets: 8.1, what was told by one secret is not there by another one; two volumes of different secrets have different blocks.
func TestSecrets(t *testing.T) {
	r := newRig(t)
	r.write(0, "a")
	r.flush()
	_, err := Open(r.d, r.c, other)
	must(t, "Open by another secret", err, api.ErrSpoilt)
	r.lies(0, 0, 0, "a")
	r.open()
	r.says("by the secret", map[int]string{0: "a"})
}
