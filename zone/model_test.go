package zone

import (
	"fmt"
	"math"
	"strings"
	"testing"

	"saltern/api"
)

// model is a device told another way: a list of all that was done, from which every answer is worked out anew.
type model struct {
	done []deed
	fuse int // below 0: none
}

// deed is a block, or (zone below 0) a slot's text, and whether it is sure.
type deed struct {
	zone, slot int
	text       string
	sure       bool
}

func padded(s string, size int) string {
	return (s + strings.Repeat("\x00", size))[:size]
}

// blocks are a zone's, or those of them that are sure.
func (m *model) blocks(zone int, sure bool) []string {
	var out []string
	for _, x := range m.done {
		if x.zone == zone && (x.sure || !sure) {
			out = append(out, x.text)
		}
	}
	return out
}

func (m *model) slot(slot int, sure bool) string {
	out := padded("", 500)
	for _, x := range m.done {
		if x.zone < 0 && x.slot == slot && (x.sure || !sure) {
			out = x.text
		}
	}
	return out
}

func (m *model) image(sure bool) api.Image {
	var out api.Image
	for z := range 8 {
		out.Zones[z] = m.blocks(z, sure)
	}
	for i := range 2 {
		out.Slots[i] = m.slot(i, sure)
	}
	return out
}

// only leaves just those deeds that are kept.
func (m *model) only(kept func(x deed) bool) {
	var left []deed
	for _, x := range m.done {
		if kept(x) {
			left = append(left, x)
		}
	}
	m.done = left
}

func (m *model) harden() {
	for i := range m.done {
		m.done[i].sure = true
	}
}

// spent tells whether the fuse lets nothing be done, and takes one off it else.
func (m *model) spent() bool {
	if m.fuse > 0 {
		m.fuse--
		return false
	}
	return m.fuse == 0
}

func (m *model) append(zone int, s string) (int, api.Errno) {
	n := len(m.blocks(zone, false))
	if zone < 0 || zone > 7 {
		return 0, api.ErrRange
	}
	if len(s) > 128 {
		return 0, api.ErrLimit
	}
	if n > 15 {
		return 0, api.ErrFull
	}
	if m.spent() {
		return 0, api.ErrDevice
	}
	m.done = append(m.done, deed{zone: zone, text: padded(s, 128)})
	return n, api.OK
}

func (m *model) reset(zone int) api.Errno {
	if zone < 0 || zone > 7 {
		return api.ErrRange
	}
	if m.spent() {
		return api.ErrDevice
	}
	m.only(func(x deed) bool { return x.zone != zone })
	return api.OK
}

func (m *model) put(slot int, s string) api.Errno {
	if slot != 0 && slot != 1 {
		return api.ErrRange
	}
	if len(s) > 500 {
		return api.ErrLimit
	}
	if m.spent() {
		return api.ErrDevice
	}
	m.done = append(m.done, deed{zone: -1, slot: slot, text: padded(s, 500)})
	return api.OK
}

func (m *model) sync() api.Errno {
	if m.spent() {
		return api.ErrDevice
	}
	m.harden()
	return api.OK
}

func (m *model) crash(keeps []int, slots []bool) {
	var met [8]int
	writes := 0
	m.only(func(x deed) bool {
		if x.sure {
			return true
		}
		if x.zone < 0 {
			writes++
			return writes <= len(slots) && slots[writes-1]
		}
		met[x.zone]++
		return x.zone < len(keeps) && met[x.zone] <= keeps[x.zone]
	})
	m.harden()
	m.fuse = -1
}

func (m *model) lay(i api.Image) {
	m.done = nil
	for z, texts := range i.Zones {
		for n, s := range texts {
			if n < 16 {
				m.done = append(m.done, deed{zone: z, text: padded(s, 128), sure: true})
			}
		}
	}
	for n, s := range i.Slots {
		m.done = append(m.done, deed{zone: -1, slot: n, text: padded(s, 500), sure: true})
	}
}

// die: numbers that look drawn, the same each time.
type die uint64

func (d *die) n(most int) int {
	*d = *d*6364136223846793005 + 1442695040888963407
	return int(uint64(*d>>33) % uint64(most))
}

// of draws one of some.
func of[T any](d *die, l ...T) T { return l[d.n(len(l))] }

// text draws one, at times of a size about an edge.
func (d *die) text(edge int) string {
	size := of(d, 0, 1, 2, d.n(edge), edge-1, edge, edge, edge+1, edge+d.n(500))
	if d.n(2) == 0 {
		size = d.n(20)
	}
	out := make([]byte, size)
	for i := range out {
		out[i] = byte(d.n(256))
	}
	return string(out)
}

// zone draws one, mostly of those that are there, and of a few of them, so that they become full.
func (d *die) zone() int {
	if d.n(12) == 0 {
		return of(d, -1, 8, math.MinInt, math.MaxInt, -8)
	}
	return of(d, 0, 0, 0, 7, 7, d.n(8))
}

func (d *die) keeps() []int {
	var out []int
	for range of(d, 0, 1, 7, 8, 9, d.n(12)) {
		out = append(out, of(d, -1, 0, 1, 2, d.n(20), math.MinInt, math.MaxInt))
	}
	return out
}

func (d *die) slots() []bool {
	var out []bool
	for range d.n(8) {
		out = append(out, d.n(2) == 0)
	}
	return out
}

// image draws one, of which zones, blocks and slots may be too long or too short.
func (d *die) image() api.Image {
	var m api.Image
	for z := range m.Zones {
		for range of(d, 0, 0, 1, 3, 15, 16, 17, 30) {
			m.Zones[z] = append(m.Zones[z], d.text(128))
		}
	}
	for i := range m.Slots {
		m.Slots[i] = d.text(500)
	}
	return m
}

// step does one and the same to a device and to a model: what it was, and what both answered.
func step(draw *die, d *Device, m *model, images *[]api.Image) (what string, got, want string) {
	told := func(n int, err error) string { return fmt.Sprint(n, " ", int(api.Tell(err))) }
	asked := func(n int, e api.Errno) string { return fmt.Sprint(n, " ", int(e)) }
	switch k := draw.n(40); {
	case k < 18:
		z, s := draw.zone(), draw.text(128)
		n, err := d.Append(z, s)
		return fmt.Sprintf("Append %d of %d bytes", z, len(s)), told(n, err), asked(m.append(z, s))
	case k < 20:
		z := draw.zone()
		return fmt.Sprintf("Reset %d", z), told(0, d.Reset(z)), asked(0, m.reset(z))
	case k < 29:
		i, s := of(draw, 0, 0, 0, 1, 1, 1, -1, 2, math.MinInt, math.MaxInt), draw.text(500)
		return fmt.Sprintf("Put %d of %d bytes", i, len(s)), told(0, d.Put(i, s)), asked(0, m.put(i, s))
	case k < 32:
		return "Sync", told(0, d.Sync()), asked(0, m.sync())
	case k < 34:
		n := of(draw, -1, 0, 1, 5, 10, 20, math.MinInt, math.MaxInt)
		d.Fuse(n)
		m.fuse = n
		return fmt.Sprintf("Fuse %d", n), "", ""
	case k < 37:
		keeps, slots := draw.keeps(), draw.slots()
		d.Crash(keeps, slots)
		m.crash(keeps, slots)
		return fmt.Sprintf("Crash %v %v", keeps, slots), "", ""
	case k < 39:
		*images = append(*images, d.Image())
		return "Image", "", ""
	default:
		i := of(draw, append(*images, draw.image())...)
		d.Lay(i)
		m.lay(i)
		return "Lay", "", ""
	}
}

// TestDrawn: 3.1 and 3.2, calls in many orders, each held to the model, and behind each all that is there, and all that is sure.
func TestDrawn(t *testing.T) {
	for seed := range 150 {
		draw := die(seed)
		d, m := New(), &model{fuse: -1}
		var images []api.Image
		var done []string
		for range 120 {
			what, got, want := step(&draw, d, m, &images)
			done = append(done, what)
			if got != want {
				t.Errorf("%s: %q, not %q", what, got, want)
			}
			shows(t, what, d, m.image(false))
			sure(t, what, d, m.image(true))
			if t.Failed() {
				t.Fatalf("seed %d: %s", seed, strings.Join(done, "; "))
			}
		}
	}
}
