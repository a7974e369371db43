package volume

import (
	"fmt"
	"reflect"
	"slices"
	"strings"
	"testing"

	"saltern/api"
	"saltern/meter"
	"saltern/zone"
)

// model is a volume, its device and its counter told another way: nothing is opened or parsed in it, since it keeps in mind each table and each block that was ever written.
type model struct {
	t       *testing.T
	zones   [8][]mBlock
	slots   [2]string // as they are sure
	writes  []mWrite  // of slots, not sure
	fuse    int       // below 0: none
	counter int
	opened  bool
	failed  bool
	now     mState
	tables  map[string]mState // by the slot that was written
}

type mBlock struct {
	text string
	sure bool
}

type mWrite struct {
	slot int
	text string
}

// mState is what cells say; a block that is "" is that of a cell that says nothing.
type mState struct {
	count int
	cells [24]mCell
}

type mCell struct {
	zone, off   int
	text, block string
}

func newModel(t *testing.T) *model {
	none := strings.Repeat("\x00", 500)
	return &model{t: t, fuse: -1, slots: [2]string{none, none}, tables: map[string]mState{}}
}

func (m *model) spent() bool {
	if m.fuse > 0 {
		m.fuse--
		return false
	}
	return m.fuse == 0
}

func (m *model) sync() api.Errno {
	if m.spent() {
		return api.ErrDevice
	}
	m.harden()
	return api.OK
}

func (m *model) harden() {
	for z := range m.zones {
		for i := range m.zones[z] {
			m.zones[z][i].sure = true
		}
	}
	for _, w := range m.writes {
		m.slots[w.slot] = w.text
	}
	m.writes = nil
}

func (m *model) free() int {
	n := 128
	for _, z := range m.zones {
		n -= len(z)
	}
	return n
}

// put answers ErrFull, ErrDevice, or lets a cell say something.
func (m *model) put(cell int, text string, but int) api.Errno {
	for z := range m.zones {
		if len(m.zones[z]) == 16 || z == but {
			continue
		}
		if m.spent() {
			m.failed = true
			return api.ErrDevice
		}
		s := block(m.t, secret, cell, text)
		m.now.cells[cell] = mCell{z, len(m.zones[z]), text, s}
		m.zones[z] = append(m.zones[z], mBlock{s, false})
		return api.OK
	}
	return api.ErrFull
}

func (m *model) write(cell int, text string) api.Errno {
	switch {
	case m.failed:
		return api.ErrState
	case cell < 0 || cell > 23:
		return api.ErrRange
	case len(text) > 80:
		return api.ErrLimit
	case m.now.cells[cell].text == text:
		return api.OK
	case text == "":
		m.now.cells[cell] = mCell{}
		return api.OK
	}
	if m.free() < 21 {
		if _, _, e := m.reclaim(); e != api.OK {
			return e
		}
	}
	return m.put(cell, text, -1)
}

func (m *model) flush() api.Errno {
	if m.failed {
		return api.ErrState
	}
	m.failed = true // unless all is done
	if e := m.sync(); e != api.OK {
		return e
	}
	next := m.now
	next.count++
	x := api.Table{Count: next.count}
	for i, c := range next.cells {
		if c.block != "" {
			x.Cells[i] = api.Cell{Zone: c.zone, Off: c.off, Tag: c.block[:16]}
		}
	}
	if m.spent() {
		return api.ErrDevice
	}
	text := slot(m.t, secret, x)
	m.tables[text] = next
	m.writes = append(m.writes, mWrite{next.count % 2, text})
	if e := m.sync(); e != api.OK {
		return e
	}
	m.counter, m.now, m.failed = next.count, next, false
	return api.OK
}

// least is the zone that is to be emptied, and the cells in it; below 0: none.
func (m *model) least() (int, []int) {
	zone, cells := -1, []int(nil)
	for z := 7; z >= 0; z-- {
		if len(m.zones[z]) < 16 {
			continue
		}
		var in []int
		for i, c := range m.now.cells {
			if c.block != "" && c.zone == z {
				in = append(in, i)
			}
		}
		if zone < 0 || len(in) <= len(cells) {
			zone, cells = z, in
		}
	}
	return zone, cells
}

func (m *model) reclaim() (int, bool, api.Errno) {
	if m.failed {
		return 0, false, api.ErrState
	}
	zone, cells := m.least()
	if zone < 0 {
		return 0, false, api.OK
	}
	for _, cell := range cells {
		if e := m.put(cell, m.now.cells[cell].text, zone); e != api.OK {
			return 0, false, e
		}
	}
	if e := m.flush(); e != api.OK {
		return 0, false, e
	}
	if m.spent() {
		m.failed = true
		return 0, false, api.ErrDevice
	}
	m.zones[zone] = nil
	return len(cells), true, api.OK
}

// whole is the table of a count, if it was written once, stands in its slot, and all of its blocks are there.
func (m *model) whole(count int) (mState, bool) {
	s, ok := m.tables[m.image(false).Slots[count%2]]
	if !ok || s.count != count {
		return mState{}, false
	}
	for _, c := range s.cells {
		if c.block == "" {
			continue
		}
		if c.off >= len(m.zones[c.zone]) || m.zones[c.zone][c.off].text[:sealed] != c.block[:sealed] {
			return mState{}, false
		}
	}
	return s, true
}

func (m *model) open() api.Errno {
	m.opened, m.failed, m.now = true, false, mState{}
	if s, ok := m.whole(m.counter + 1); ok {
		m.now, m.counter = s, m.counter+1
		return api.OK
	}
	if m.counter == 0 {
		return api.OK
	}
	if s, ok := m.whole(m.counter); ok {
		m.now = s
		return api.OK
	}
	m.opened = false
	return api.ErrSpoilt
}

func (m *model) crash(keeps []int, slots []bool) {
	for z := range m.zones {
		var left []mBlock
		met := 0
		for _, b := range m.zones[z] {
			if !b.sure {
				met++
			}
			if b.sure || z < len(keeps) && met <= keeps[z] {
				left = append(left, b)
			}
		}
		m.zones[z] = left
	}
	var left []mWrite
	for i, w := range m.writes {
		if i < len(slots) && slots[i] {
			left = append(left, w)
		}
	}
	m.writes = left
	m.harden()
	m.fuse = -1
}

func (m *model) image(sure bool) api.Image {
	out := api.Image{Slots: m.slots}
	for z, l := range m.zones {
		for _, b := range l {
			if b.sure || !sure {
				out.Zones[z] = append(out.Zones[z], b.text)
			}
		}
	}
	if !sure {
		for _, w := range m.writes {
			out.Slots[w.slot] = w.text
		}
	}
	return out
}

func (m *model) lay(i api.Image) {
	m.slots, m.writes = i.Slots, nil
	for z, l := range i.Zones {
		m.zones[z] = nil
		for _, s := range l {
			m.zones[z] = append(m.zones[z], mBlock{s, true})
		}
	}
}

func (m *model) says() map[int]string {
	out := map[int]string{}
	for i, c := range m.now.cells {
		if c.text != "" {
			out[i] = c.text
		}
	}
	return out
}

// die: numbers that look drawn, the same each time.
type die uint64

func (d *die) n(most int) int {
	*d = *d*6364136223846793005 + 1442695040888963407
	return int(uint64(*d>>33) % uint64(most))
}

// of draws one of some.
func of[T any](d *die, l ...T) T { return l[d.n(len(l))] }

func (d *die) text() string {
	return of(d, "", "a", "b", fmt.Sprint("text ", d.n(99)), fmt.Sprint(d.n(9999)), strings.Repeat("y", 80), strings.Repeat("y", 79), strings.Repeat("\x00", 1+d.n(3)))
}

func (d *die) cell() int {
	if d.n(20) == 0 {
		return of(d, noCells...)
	}
	return d.n(24)
}

// bench is one and the same done to a volume and to a model.
type bench struct {
	*rig
	m      *model
	draw   die
	images []api.Image
	met    map[string]int // what was answered
}

// ask asks a volume, if there is one, and the model the same.
func (b *bench) ask(what string, got func(v *Volume) (int, bool, error), want func() (int, bool, api.Errno)) string {
	if !b.m.opened {
		return what
	}
	n, ok, err := got(b.v)
	k, yes, e := want()
	b.met[fmt.Sprint(strings.Fields(what)[0], " ", yes, " ", int(e))]++
	if n != k || ok != yes || api.Tell(err) != e {
		b.Errorf("%s: %d, %v, %v, not %d, %v, %v", what, n, ok, err, k, yes, e)
	}
	return what
}

// again opens both again.
func (b *bench) again(what string) string {
	v, err := Open(b.d, b.c, secret)
	e := b.m.open()
	b.met[fmt.Sprint("Open ", int(e))]++
	if api.Tell(err) != e || (v == nil) != (e != api.OK) {
		b.Errorf("%s: Open told %v, not %v", what, err, e)
	}
	b.v = v
	return what
}

// step does something that is drawn.
func (b *bench) step() string {
	d := &b.draw
	switch k := d.n(100); {
	case k < 66:
		cell, text := d.cell(), d.text()
		if d.n(30) == 0 {
			text = strings.Repeat("l", 81+d.n(100))
		}
		return b.ask(fmt.Sprintf("Write %d %q", cell, text), func(v *Volume) (int, bool, error) { return 0, false, v.Write(cell, text) }, func() (int, bool, api.Errno) { return 0, false, b.m.write(cell, text) })
	case k < 76:
		return b.ask("Flush", func(v *Volume) (int, bool, error) { return 0, false, v.Flush() }, func() (int, bool, api.Errno) { return 0, false, b.m.flush() })
	case k < 81:
		return b.ask("Reclaim", (*Volume).Reclaim, b.m.reclaim)
	case k < 85:
		n := of(d, -1, 0, d.n(4), d.n(9), d.n(30))
		b.d.Fuse(n)
		b.m.fuse = n
		return fmt.Sprint("Fuse ", n)
	case k < 90:
		return b.fill(d.n(8), d.n(17))
	case k < 96:
		keeps, slots := []int{d.n(3), d.n(3), d.n(9), d.n(2), 1, 16}, []bool{d.n(2) == 0, d.n(2) == 0}
		b.d.Crash(keeps, slots)
		b.m.crash(keeps, slots)
		return b.again(fmt.Sprint("Crash ", keeps, slots))
	case k < 98:
		b.images = append(b.images, b.d.Image())
		return "Image"
	}
	return b.lay()
}

// crowd leaves few blocks free, and no zone without cells, so that there may be no room for what is to be moved.
func (b *bench) crowd() string {
	cell := 0
	for z := range 7 {
		for range 3 {
			text := fmt.Sprint("crowd ", b.draw.n(9))
			must(b.T, "Write", b.v.Write(cell, text), b.m.write(cell, text))
			cell++
		}
		b.fill(z, 13)
	}
	b.fill(7, 13+b.draw.n(3))
	return "crowd"
}

// fill appends blocks that are no cell's.
func (b *bench) fill(z, n int) string {
	for i := range n {
		s := fmt.Sprint("junk ", i)
		if len(b.m.zones[z]) == 16 {
			break
		}
		if b.m.spent() {
			_, err := b.d.Append(z, s)
			must(b.T, "Append", err, api.ErrDevice)
			break
		}
		_, err := b.d.Append(z, s)
		must(b.T, "Append", err, api.OK)
		b.m.zones[z] = append(b.m.zones[z], mBlock{s + strings.Repeat("\x00", 128-len(s)), false})
	}
	return fmt.Sprint("junk ", z, " ", n)
}

// lay lays something down that is drawn: an elder image, one that is changed, or one that is as it was, and opens it.
func (b *bench) lay() string {
	d, m, what := &b.draw, copied(b.d.Image()), "Lay"
	defer func(was api.Image) {
		if !b.m.opened { // what was there ahead of it holds
			b.d.Lay(was)
			b.m.lay(was)
			b.again("Lay what was there")
		}
	}(b.d.Image())
	switch d.n(6) {
	case 0:
		m, what = of(d, append(b.images, m)...), "Lay an elder image"
	case 1:
		z := d.n(8)
		m.Zones[z], what = of(d, append(b.images, m)...).Zones[z], "Lay an elder zone"
	case 2:
		if z := d.n(8); len(m.Zones[z]) > 0 {
			l := m.Zones[z]
			i := d.n(len(l))
			l[i], what = flipped(l[i], d.n(128)), "Lay another byte"
		}
	case 3:
		n := d.n(2)
		m.Slots[n], what = flipped(m.Slots[n], d.n(500)), "Lay another byte of a slot"
	}
	b.d.Lay(m)
	b.m.lay(m)
	return b.again(what)
}

// held holds all that there is to the model.
func (b *bench) held(what string) {
	b.Helper()
	if !same(b.d.Image(), b.m.image(true)) || !same(b.view(), b.m.image(false)) {
		b.Errorf("%s: the device is not as it must be", what)
	}
	if b.c.Get() != b.m.counter {
		b.Errorf("%s: the counter is at %d, not %d", what, b.c.Get(), b.m.counter)
	}
	if !b.m.opened {
		return
	}
	if b.v.Count() != b.m.now.count || b.v.Free() != b.m.free() {
		b.Errorf("%s: Count %d, Free %d, not %d, %d", what, b.v.Count(), b.v.Free(), b.m.now.count, b.m.free())
	}
	if got := says(b.T, b.v); !reflect.DeepEqual(got, b.m.says()) {
		b.Errorf("%s: cells say %v, not %v", what, got, b.m.says())
	}
}

func same(a, b api.Image) bool {
	return a.Slots == b.Slots && slices.EqualFunc(a.Zones[:], b.Zones[:], slices.Equal)
}

// TestDrawn: 8.1 to 8.4, calls in many orders, each held to the model, and behind each all that is there, sure or not.
func TestDrawn(t *testing.T) {
	met := map[string]int{}
	for seed := range 300 {
		b := &bench{rig: &rig{t, zone.New(), &meter.Counter{}, nil}, m: newModel(t), draw: die(seed), met: met}
		done := []string{b.again("Open")}
		switch seed % 3 {
		case 0:
			for range 12 {
				done = append(done, b.fill(b.draw.n(8), b.draw.n(17)))
			}
		case 1:
			done = append(done, b.crowd())
		}
		for range 40 + seed%5*30 {
			done = append(done, b.step())
			b.held(done[len(done)-1])
			if t.Failed() {
				t.Fatalf("seed %d: %s", seed, strings.Join(done, "; "))
			}
		}
	}
	for _, what := range []string{"Open 0", "Open 15", "Write false 0", "Write false 2", "Write false 4", "Write false 6", "Write false 12", "Write false 14", "Flush false 0", "Flush false 6", "Flush false 14", "Reclaim false 0", "Reclaim true 0", "Reclaim false 6", "Reclaim false 12", "Reclaim false 14"} {
		if met[what] < 10 {
			t.Errorf("%s was met %d times alone: too few to tell (%v)", what, met[what], met)
		}
	}
}
