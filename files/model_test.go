package files

import (
	"fmt"
	"maps"
	"regexp"
	"slices"
	"strings"
	"testing"

	"saltern/api"
	"saltern/entry"
	"saltern/meter"
	"saltern/volume"
	"saltern/zone"
)

// twin is files told another way: on a volume, a device and a counter of its own, to which just those cells are written that the document tells.
type twin struct {
	d     *zone.Device
	c     *meter.Counter
	v     *volume.Volume
	files map[string][]int // the cells of each
	sizes map[string]int
}

var nameForm = regexp.MustCompile(`\A[a-z][a-z0-9]{0,9}\z`)

// cut takes a text apart, Plain bytes a piece.
func cut(text string, pieces int) (out []string) {
	for range pieces {
		n := min(80, len(text))
		out, text = append(out, text[:n]), text[n:]
	}
	return out
}

func (m *twin) put(name, text string) api.Errno {
	if !nameForm.MatchString(name) {
		return api.ErrName
	}
	files, sizes := maps.Clone(m.files), maps.Clone(m.sizes)
	delete(files, name)
	var cells []int
	for cell := 3; cell < 24 && len(cells)*80 < len(text); cell++ {
		taken := false
		for _, l := range files {
			taken = taken || slices.Contains(l, cell)
		}
		if !taken {
			cells = append(cells, cell)
		}
	}
	if len(files) > 7 || len(cells)*80 < len(text) {
		return api.ErrFull
	}
	for i, s := range cut(text, len(cells)) {
		if err := m.v.Write(cells[i], s); err != nil {
			return api.Tell(err)
		}
	}
	files[name], sizes[name] = cells, len(text)
	return m.tell(files, sizes)
}

func (m *twin) del(name string) api.Errno {
	if _, ok := m.files[name]; !ok {
		return api.ErrMissing
	}
	files, sizes := maps.Clone(m.files), maps.Clone(m.sizes)
	delete(files, name)
	return m.tell(files, sizes)
}

// tell writes the directory.
func (m *twin) tell(files map[string][]int, sizes map[string]int) api.Errno {
	text := ""
	for _, name := range slices.Sorted(maps.Keys(files)) {
		text += fmt.Sprint(name, " ", sizes[name])
		for _, cell := range files[name] {
			text += fmt.Sprint(" ", cell)
		}
		text += "\n"
	}
	for cell, s := range cut(text, 3) {
		if err := m.v.Write(cell, s); err != nil {
			return api.Tell(err)
		}
	}
	m.files, m.sizes = files, sizes
	return api.OK
}

func (m *twin) read(cells ...int) string {
	out := ""
	for _, cell := range cells {
		s, err := m.v.Read(cell)
		if err != nil {
			panic(err)
		}
		out += s
	}
	return out
}

func (m *twin) open() api.Errno {
	v, err := volume.Open(m.d, m.c, secret)
	m.v = v
	if err != nil {
		return api.Tell(err)
	}
	m.files, m.sizes = map[string][]int{}, map[string]int{}
	l, err := entry.Parse(m.read(0, 1, 2))
	if err != nil {
		m.v = nil
		return api.ErrSpoilt
	}
	for _, f := range l {
		m.files[f.Name], m.sizes[f.Name] = f.Cells, f.Size
	}
	return api.OK
}

// die: numbers that look drawn, the same each time.
type die uint64

func (d *die) n(most int) int {
	*d = *d*6364136223846793005 + 1442695040888963407
	return int(uint64(*d>>33) % uint64(most))
}

// of draws one of some.
func of[T any](d *die, l ...T) T { return l[d.n(len(l))] }

var names = []string{"a", "b", "c", "abcdefgh0", "abcdefgh1", "abcdefgh2", "abcdefghi3", "abcdefghi4", "z", "z9"}

func (d *die) name() string {
	if d.n(15) == 0 {
		return of(d, noNames...)
	}
	return of(d, names...)
}

func (d *die) text() string {
	n := of(d, 0, 1, 79, 80, 81, 160, 161, d.n(200), d.n(400))
	if d.n(12) == 0 {
		n = of(d, 1680, 1681, d.n(3000))
	}
	return strings.Repeat(of(d, "x", "y", fmt.Sprint(d.n(99), "."), "\x00"), n)[:n]
}

// bench is one and the same done to files and to their twin.
type bench struct {
	*rig
	m      *twin
	draw   die
	images []api.Image
	met    map[string]int // what was answered
}

// ask asks the files, if they are open, and the twin the same.
func (b *bench) ask(what string, got func(f *Files) (int, bool, error), want func() (int, bool, api.Errno)) string {
	if b.f == nil {
		return what
	}
	count := b.f.Count()
	n, ok, err := got(b.f)
	k, yes, e := want()
	word := strings.Fields(what)[0]
	b.met[fmt.Sprint(word, " ", yes, " ", int(e))]++
	if b.f.Count() > count {
		b.met[word+" told"]++
	}
	if n != k || ok != yes || api.Tell(err) != e {
		b.Errorf("%s: %d, %v, %v, not %d, %v, %v", what, n, ok, err, k, yes, e)
	}
	return what
}

// again opens both again.
func (b *bench) again(what string) string {
	f, err := Open(b.d, b.c, secret)
	e := b.m.open()
	b.met[fmt.Sprint("Open ", int(e))]++
	if api.Tell(err) != e || (f == nil) != (e != api.OK) {
		b.Errorf("%s: Open told %v, not %v", what, err, e)
	}
	b.f = f
	return what
}

// both does the same to both devices.
func (b *bench) both(do func(d *zone.Device)) {
	do(b.d)
	do(b.m.d)
}

// step does something that is drawn.
func (b *bench) step() string {
	d := &b.draw
	switch k := d.n(100); {
	case k < 50:
		name, text := d.name(), d.text()
		return b.ask(fmt.Sprintf("Put %q of %d", name, len(text)), func(f *Files) (int, bool, error) { return 0, false, f.Put(name, text) }, func() (int, bool, api.Errno) { return 0, false, b.m.put(name, text) })
	case k < 64:
		name := d.name()
		return b.ask(fmt.Sprintf("Del %q", name), func(f *Files) (int, bool, error) { return 0, false, f.Del(name) }, func() (int, bool, api.Errno) { return 0, false, b.m.del(name) })
	case k < 75:
		return b.ask("Flush", func(f *Files) (int, bool, error) { return 0, false, f.Flush() }, func() (int, bool, api.Errno) { return 0, false, api.Tell(b.m.v.Flush()) })
	case k < 79:
		return b.ask("Reclaim", (*Files).Reclaim, func() (int, bool, api.Errno) {
			n, ok, err := b.m.v.Reclaim()
			return n, ok, api.Tell(err)
		})
	case k < 83:
		n := of(d, -1, 0, d.n(4), d.n(9), d.n(30))
		b.both(func(d *zone.Device) { d.Fuse(n) })
		return fmt.Sprint("Fuse ", n)
	case k < 88:
		return b.fill(d.n(8), d.n(17))
	case k < 95:
		keeps, slots := []int{d.n(3), d.n(3), d.n(9), d.n(2), 1, 16}, []bool{d.n(2) == 0, d.n(2) == 0}
		b.both(func(d *zone.Device) { d.Crash(keeps, slots) })
		return b.again(fmt.Sprint("Crash ", keeps, slots))
	case k < 98:
		b.images = append(b.images, b.d.Image())
		return "Image"
	}
	return b.lay()
}

// fill appends blocks that are no cell's.
func (b *bench) fill(z, n int) string {
	b.both(func(d *zone.Device) {
		for i := range n {
			d.Append(z, fmt.Sprint("junk ", i)) // until the zone is full, or the fuse is spent
		}
	})
	return fmt.Sprint("junk ", z, " ", n)
}

// lay lays an elder image down, or one of which a zone is elder; and, if that is noticed, what was there.
func (b *bench) lay() string {
	was := b.d.Image()
	m := of(&b.draw, append(b.images, was)...)
	if b.draw.n(2) == 0 {
		z := b.draw.n(8)
		one := was
		one.Zones[z] = m.Zones[z]
		m = one
	}
	b.both(func(d *zone.Device) { d.Lay(m) })
	b.again("Lay")
	if b.f == nil {
		b.both(func(d *zone.Device) { d.Lay(was) })
		b.again("Lay what was there")
	}
	return "Lay"
}

func same(a, b api.Image) bool {
	return a.Slots == b.Slots && slices.EqualFunc(a.Zones[:], b.Zones[:], slices.Equal)
}

// held holds all that there is to the twin.
func (b *bench) held(what string) {
	b.Helper()
	if !same(b.d.Image(), b.m.d.Image()) || !same(view(b.T, b.d), view(b.T, b.m.d)) {
		b.Errorf("%s: the device is not as it must be", what)
	}
	if b.c.Get() != b.m.c.Get() {
		b.Errorf("%s: the counter is at %d, not %d", what, b.c.Get(), b.m.c.Get())
	}
	if b.f == nil {
		return
	}
	if b.f.Count() != b.m.v.Count() || b.f.Free() != b.m.v.Free() {
		b.Errorf("%s: Count %d, Free %d, not %d, %d", what, b.f.Count(), b.f.Free(), b.m.v.Count(), b.m.v.Free())
	}
	says := map[string]string{}
	for name, cells := range b.m.files {
		says[name] = b.m.read(cells...)
	}
	b.says(what, says)
}

// TestDrawn: 10.1, calls in many orders, each held to the twin, and behind each all that is there, sure or not.
func TestDrawn(t *testing.T) {
	met := map[string]int{}
	for seed := range 400 {
		m := &twin{d: zone.New(), c: &meter.Counter{}}
		b := &bench{rig: &rig{t, zone.New(), &meter.Counter{}, nil}, m: m, draw: die(seed), met: met}
		done := []string{b.again("Open")}
		// Of some devices so few blocks are free that zones are emptied in the midst of a Put, or a Del.
		for range seed % 4 * 6 {
			done = append(done, b.fill(b.draw.n(8), b.draw.n(17)))
		}
		b.both(func(d *zone.Device) { d.Sync() })
		for range 30 + seed%5*20 {
			done = append(done, b.step())
			b.held(done[len(done)-1])
			if t.Failed() {
				t.Fatalf("seed %d: %s", seed, strings.Join(done, "; "))
			}
		}
	}
	for _, what := range []string{"Open 0", "Open 15", "Put false 0", "Put false 5", "Put false 6", "Put false 12", "Put false 14", "Put told", "Del false 0", "Del false 6", "Del false 7", "Del false 14", "Del told", "Flush false 0", "Flush false 6", "Flush false 14", "Reclaim false 0", "Reclaim true 0", "Reclaim false 6", "Reclaim false 14"} {
		if met[what] < 10 {
			t.Errorf("%s was met %d times alone: too few to tell (%v)", what, met[what], met)
		}
	}
}
