package space

import (
	"math"
	"slices"
	"sort"
	"strings"
	"testing"

	"saltern/api"
	"saltern/zone"
)

// The heads are given: this does not build with others.
var (
	_ func([]int) int              = Free
	_ func([]int, int) (int, bool) = Open
	_ func(api.Table) []int        = Live
	_ func(_, _ []int) (int, bool) = Victim
	_ func(api.Table, int) []int   = In
)

const someTag = "a tag, 16 bytes!"

// odd are numbers out of bounds, some so far that taking them away, or keeping their last bytes alone, would bring them back.
var odd = []int{math.MinInt, math.MinInt + 1, -1 << 32, -256, -17, -16, -8, -2, -1, 1 << 8, 1 << 16, 1 << 32, math.MaxInt - 1, math.MaxInt}

// guarded is a copy of a list, behind whose length other numbers stand.
func guarded(list []int) []int {
	out := append(make([]int, 0, len(list)+4), list...)
	copy(out[len(out):cap(out)], []int{3, 0, 15, 7})
	return out
}

// kept holds a guarded list to be as it was, and what stands behind its length (P4).
func kept(t *testing.T, what string, list, was []int) {
	t.Helper()
	behind := list[len(list) : len(list)+4]
	if !slices.Equal(list, was) || !slices.Equal(behind, []int{3, 0, 15, 7}) {
		t.Errorf("%s of %v: it was changed to %v, behind it %v", what, was, list, behind)
	}
}

// free holds Free to a number.
func free(t *testing.T, at []int, want int) {
	t.Helper()
	list := guarded(at)
	if got := Free(list); got != want {
		t.Errorf("Free of %v: %d, not %d", at, got, want)
	}
	kept(t, "Free", list, at)
}

// open holds Open to a zone.
func open(t *testing.T, at []int, but, want int) {
	t.Helper()
	list := guarded(at)
	if got, ok := Open(list, but); got != want || !ok {
		t.Errorf("Open of %v but %d: %d, %v, not %d", at, but, got, ok, want)
	}
	kept(t, "Open", list, at)
}

// shut holds Open to tell none, and 0 beside it (P2).
func shut(t *testing.T, at []int, but int) {
	t.Helper()
	list := guarded(at)
	if got, ok := Open(list, but); got != 0 || ok {
		t.Errorf("Open of %v but %d: %d, %v, not none", at, but, got, ok)
	}
	kept(t, "Open", list, at)
}

// victim holds Victim to a zone.
func victim(t *testing.T, at, live []int, want int) {
	t.Helper()
	zones, lives := guarded(at), guarded(live)
	if got, ok := Victim(zones, lives); got != want || !ok {
		t.Errorf("Victim of %v, %v: %d, %v, not %d", at, live, got, ok, want)
	}
	kept(t, "Victim", zones, at)
	kept(t, "Victim", lives, live)
}

// spared holds Victim to tell none, and 0 beside it (P2).
func spared(t *testing.T, at, live []int) {
	t.Helper()
	zones, lives := guarded(at), guarded(live)
	if got, ok := Victim(zones, lives); got != 0 || ok {
		t.Errorf("Victim of %v, %v: %d, %v, not none", at, live, got, ok)
	}
	kept(t, "Victim", zones, at)
	kept(t, "Victim", lives, live)
}

// lives holds Live to a number of each zone.
func lives(t *testing.T, x api.Table, want ...int) {
	t.Helper()
	if got := Live(x); len(got) != 8 || !slices.Equal(got, want) {
		t.Errorf("Live of %v: %v, not %v", x.Cells, got, want)
	}
}

// in holds In to cells.
func in(t *testing.T, x api.Table, zone int, want ...int) {
	t.Helper()
	if got := In(x, zone); !slices.Equal(got, want) {
		t.Errorf("In %d of %v: %v, not %v", zone, x.Cells, got, want)
	}
}

// full is so many zones of Cap blocks.
func full(zones int) []int {
	return slices.Repeat([]int{api.Cap}, zones)
}

// lain is a table of which these cells lie, one behind the other, in these zones, with a tag each.
func lain(zones ...int) api.Table {
	var x api.Table
	for i, zone := range zones {
		x.Cells[i] = api.Cell{Zone: zone, Off: i % 16, Tag: someTag}
	}
	return x
}

// TestExample: the document's example of chapter 7.
func TestExample(t *testing.T) {
	free(t, []int{16, 3, 0}, 29)
	open(t, []int{16, 3, 0}, 1, 2)
}

// TestNoZones: 7.1, of no zones at all nothing is free, open or to be emptied.
func TestNoZones(t *testing.T) {
	for _, none := range [][]int{nil, {}} {
		if got := Free(none); got != 0 {
			t.Errorf("Free of no zones: %d", got)
		}
		for _, but := range []int{-1, 0, 1, 8, math.MinInt, math.MaxInt} {
			if got, ok := Open(none, but); got != 0 || ok {
				t.Errorf("Open of no zones but %d: %d, %v", but, got, ok)
			}
		}
		for _, other := range [][]int{nil, {}, {0}, {16}, full(8)} {
			for _, lists := range [][2][]int{{none, other}, {other, none}} {
				if got, ok := Victim(lists[0], lists[1]); got != 0 || ok {
					t.Errorf("Victim of %v, %v: %d, %v", lists[0], lists[1], got, ok)
				}
			}
		}
	}
}

// TestFreeOne: 7.1, what a zone adds to Free: from 0 to Cap, whatever it has.
func TestFreeOne(t *testing.T) {
	free(t, []int{0}, 16)
	free(t, []int{1}, 15)
	free(t, []int{api.Cap - 1}, 1)
	free(t, []int{api.Cap}, 0)
	free(t, []int{api.Cap + 1}, 0)
	free(t, []int{-1}, 16)
	for n := range 17 {
		free(t, []int{n}, 16-n)
	}
	for _, n := range odd {
		want := 0
		if n < 0 {
			want = 16
		}
		free(t, []int{n}, want)
	}
}

// TestFreeTogether: 7.1, of few zones, of as many as Zones and of more, what each adds, wherever it stands.
func TestFreeTogether(t *testing.T) {
	for _, zones := range []int{1, 2, 7, 8, 9, 20, 300} {
		free(t, full(zones), 0)
		free(t, make([]int, zones), 16*zones)
		for i := range zones {
			for _, c := range []struct{ blocks, free int }{{-1, 16}, {0, 16}, {15, 1}, {16, 0}, {17, 0}, {math.MinInt, 16}, {math.MaxInt, 0}} {
				at := full(zones)
				at[i] = c.blocks
				free(t, at, c.free)
				at = slices.Repeat([]int{13}, zones)
				at[i] = c.blocks
				free(t, at, 3*(zones-1)+c.free)
			}
		}
		free(t, slices.Repeat([]int{math.MinInt}, zones), 16*zones)
		free(t, slices.Repeat([]int{math.MaxInt}, zones), 0)
	}
	// What one zone has too much takes nothing from another one, nor does one that has below 0 add to it.
	free(t, []int{17, 15}, 1)
	free(t, []int{15, 32, 15}, 2)
	free(t, []int{-1, 16}, 16)
	free(t, []int{-5, 17, 0}, 32)
}

// TestOpenFirst: 7.1, the first zone that has less than Cap, in few zones, as many as Zones and more.
func TestOpenFirst(t *testing.T) {
	for _, zones := range []int{1, 2, 7, 8, 9, 20, 300} {
		for i := range zones {
			for _, blocks := range []int{math.MinInt, -17, -1, 0, 1, 8, 15} {
				at := full(zones)
				at[i] = blocks
				open(t, at, -1, i)
				// The first one, not the one that has most room, or least.
				for j := i + 1; j < zones; j++ {
					at[j] = j * 7 % 19
				}
				open(t, at, -1, i)
			}
		}
	}
	open(t, []int{17, 16, 15}, -1, 2)
	open(t, []int{15, 0}, -1, 0)
	open(t, []int{0, 15}, -1, 0)
}

// TestOpenBut: 7.1, the one that is but is not told, and no other one is left out.
func TestOpenBut(t *testing.T) {
	for _, zones := range []int{2, 8, 9, 20} {
		at := make([]int, zones)
		open(t, at, 0, 1)
		for but := 1; but < zones; but++ {
			open(t, at, but, 0)
		}
		for i := range zones {
			for j := i + 1; j < zones; j++ {
				at := full(zones)
				at[i], at[j] = 15, 3
				open(t, at, i, j)
				open(t, at, j, i)
				open(t, at, -1, i)
			}
		}
	}
	// A number of a zone is left out, not a number of blocks.
	open(t, []int{5, 0, 0, 0, 0, 2}, 5, 0)
	open(t, []int{16, 3, 2}, 3, 1)
}

// TestOpenNone: 7.1, none has room, or none but but.
func TestOpenNone(t *testing.T) {
	for _, zones := range []int{1, 2, 8, 9, 20} {
		for _, blocks := range []int{16, 17, 32, 1 << 32, math.MaxInt} {
			for but := -2; but < zones+2; but++ {
				shut(t, slices.Repeat([]int{blocks}, zones), but)
			}
		}
		for but := range zones {
			for _, blocks := range []int{math.MinInt, -1, 0, 15} {
				at := full(zones)
				at[but] = blocks
				shut(t, at, but)
			}
		}
	}
	shut(t, []int{0}, 0)
}

// TestOpenOdd: 7.1, a but below 0 or beyond the last leaves none out.
func TestOpenOdd(t *testing.T) {
	for _, zones := range []int{1, 8, 9} {
		for i := range zones {
			at := full(zones)
			at[i] = 15
			for _, but := range append([]int{zones, zones + 1, zones + i, -1 - i, i - zones}, odd...) {
				open(t, at, but, i)
			}
		}
	}
}

// TestLiveNone: 7.1, in a table whose cells are all zero nothing lies anywhere, and all Zones zones are told; a count does not matter.
func TestLiveNone(t *testing.T) {
	for _, count := range []int{0, 1, -1, 1 << 40, math.MinInt, math.MaxInt} {
		x := api.Table{Count: count}
		lives(t, x, 0, 0, 0, 0, 0, 0, 0, 0)
		for zone := -2; zone < 20; zone++ {
			in(t, x, zone)
		}
	}
}

// TestEachZone: 7.1, cells with a tag in each zone: one, some, and all of them; their numbers rise, wherever in the zone they lie.
func TestEachZone(t *testing.T) {
	for zone := range 8 {
		for i := range 24 {
			var x api.Table
			x.Cells[i] = api.Cell{Zone: zone, Off: 15 - i%16, Tag: someTag}
			want := make([]int, 8)
			want[zone] = 1
			lives(t, x, want...)
			for other := range 8 {
				if other == zone {
					in(t, x, other, i)
				} else {
					in(t, x, other)
				}
			}
		}
		x := lain(slices.Repeat([]int{zone}, 24)...)
		want := make([]int, 8)
		want[zone] = 24
		lives(t, x, want...)
		in(t, x, zone, 0, 1, 2, 3, 4, 5, 6, 7, 8, 9, 10, 11, 12, 13, 14, 15, 16, 17, 18, 19, 20, 21, 22, 23)
	}
	x := lain(7, 0, 3, 3, 0, 7, 1, 2, 3, 4, 5, 6, 7, 0, 0, 0, 0, 0, 5, 5, 1, 7, 7, 3)
	lives(t, x, 7, 2, 1, 4, 1, 3, 1, 5)
	in(t, x, 0, 1, 4, 13, 14, 15, 16, 17)
	in(t, x, 1, 6, 20)
	in(t, x, 2, 7)
	in(t, x, 3, 2, 3, 8, 23)
	in(t, x, 4, 9)
	in(t, x, 5, 10, 18, 19)
	in(t, x, 6, 11)
	in(t, x, 7, 0, 5, 12, 21, 22)
}

// TestRising: 7.1, numbers of cells rise, where blocks, tags and zones fall.
func TestRising(t *testing.T) {
	var x api.Table
	for i := range 24 {
		x.Cells[i] = api.Cell{Zone: 7 - i/3%8, Off: 23 - i, Tag: strings.Repeat(string(rune('z'-i)), 16)}
	}
	for zone := range 8 {
		first := 3 * (7 - zone)
		in(t, x, zone, first, first+1, first+2)
	}
	lives(t, x, 3, 3, 3, 3, 3, 3, 3, 3)
}

// TestUntagged: 7.1, a cell without a tag lies nowhere, whatever its zone and block are.
func TestUntagged(t *testing.T) {
	for _, zone := range append([]int{0, 1, 3, 7, 8, 9}, odd...) {
		for i := range 24 {
			var x api.Table
			x.Cells[i] = api.Cell{Zone: zone, Off: i % 16}
			lives(t, x, 0, 0, 0, 0, 0, 0, 0, 0)
			in(t, x, zone)
			in(t, x, 0)
			x.Cells[(i+1)%24] = api.Cell{Zone: 5, Off: 9, Tag: someTag}
			lives(t, x, 0, 0, 0, 0, 0, 1, 0, 0)
			in(t, x, 5, (i+1)%24)
		}
	}
}

// TestTags: 7.1, any tag that is not empty is one, whatever bytes it has and however many (P5).
func TestTags(t *testing.T) {
	for _, tag := range []string{"g", "\x00", strings.Repeat("\x00", 16), "\xff", "ä", " ", someTag, strings.Repeat("k", 1<<16)} {
		for i := range 24 {
			var x api.Table
			x.Cells[i] = api.Cell{Zone: 2, Tag: tag}
			lives(t, x, 0, 0, 1, 0, 0, 0, 0, 0)
			in(t, x, 2, i)
			in(t, x, 0)
		}
	}
}

// TestSamePlace: 7.1, cells are counted, not blocks: two of one place, or of none that may be, are two.
func TestSamePlace(t *testing.T) {
	for _, off := range append([]int{0, 15, 16}, odd...) {
		var x api.Table
		x.Cells[4] = api.Cell{Zone: 6, Off: off, Tag: someTag}
		x.Cells[20] = x.Cells[4]
		lives(t, x, 0, 0, 0, 0, 0, 0, 2, 0)
		in(t, x, 6, 4, 20)
	}
}

// TestNoSuchZone: 7.1, of cells with a tag in a zone below 0 or beyond the last Live tells nothing, and In those that say just that zone.
func TestNoSuchZone(t *testing.T) {
	zones := append([]int{8, 9, 15, 16, 24}, odd...)
	for _, zone := range zones {
		x := lain(zone, 0, zone, 7)
		x.Cells[23] = api.Cell{Zone: zone, Tag: someTag}
		lives(t, x, 1, 0, 0, 0, 0, 0, 0, 1)
		in(t, x, zone, 0, 2, 23)
		in(t, x, 0, 1)
		in(t, x, 7, 3)
		for _, other := range zones {
			if other != zone {
				in(t, x, other)
				in(t, lain(0, 1, 2, 3, 4, 5, 6, 7), other)
			}
		}
		lives(t, lain(slices.Repeat([]int{zone}, 24)...), 0, 0, 0, 0, 0, 0, 0, 0)
	}
}

// TestVictimNone: 7.1, where no zone has Cap blocks none is to be emptied, however few cells live in it.
func TestVictimNone(t *testing.T) {
	for _, zones := range []int{1, 2, 8, 9, 20} {
		for _, blocks := range []int{math.MinInt, -1, 0, 1, 15} {
			spared(t, slices.Repeat([]int{blocks}, zones), make([]int, zones))
			spared(t, slices.Repeat([]int{blocks}, zones), full(zones))
		}
	}
}

// TestVictimOne: 7.1, one full zone is the one, wherever it stands, whatever lives in it, and however few live in those that are not full.
func TestVictimOne(t *testing.T) {
	for _, zones := range []int{1, 2, 8, 9, 20} {
		for i := range zones {
			for _, blocks := range []int{16, 17, 32, 1 << 32, math.MaxInt} {
				for _, n := range []int{0, 1, 16, 24, 1 << 32, math.MaxInt, -1, math.MinInt} {
					at, live := slices.Repeat([]int{15}, zones), make([]int, zones)
					at[i], live[i] = blocks, n
					victim(t, at, live, i)
				}
			}
		}
	}
}

// TestVictimLeast: 7.1, the one with the least live, wherever it stands; of several with the same the first.
func TestVictimLeast(t *testing.T) {
	for _, zones := range []int{2, 8, 9, 20} {
		victim(t, full(zones), make([]int, zones), 0)
		victim(t, full(zones), slices.Repeat([]int{16}, zones), 0)
		falling := make([]int, zones)
		for i := range zones {
			falling[i] = zones - i
		}
		victim(t, full(zones), falling, zones-1)
		for i := range zones {
			live := slices.Repeat([]int{4}, zones)
			live[i] = 3
			victim(t, full(zones), live, i)
			for j := i + 1; j < zones; j++ {
				live := slices.Repeat([]int{4}, zones)
				live[i], live[j] = 3, 3
				victim(t, full(zones), live, i)
				live[j] = 2
				victim(t, full(zones), live, j)
			}
		}
	}
	victim(t, full(3), []int{math.MaxInt, math.MinInt, math.MaxInt}, 1)
	victim(t, full(3), []int{0, -1, math.MinInt}, 2)
	victim(t, full(3), []int{math.MinInt, math.MaxInt, 0}, 0)
}

// TestVictimFull: 7.1, the least is looked for among full zones alone; one of more than Cap is no better and no worse than one of Cap.
func TestVictimFull(t *testing.T) {
	victim(t, []int{15, 16, 0, 16}, []int{0, 9, 1, 5}, 3)
	victim(t, []int{0, 16, 15, 16, -1}, []int{0, 5, 0, 5, 0}, 1)
	victim(t, []int{17, 16}, []int{3, 3}, 0)
	victim(t, []int{16, 17}, []int{3, 3}, 0)
	victim(t, []int{16, 17}, []int{3, 2}, 1)
	victim(t, []int{17, 16}, []int{2, 3}, 0)
	victim(t, []int{16, math.MaxInt, 16}, []int{3, 2, 2}, 1)
	victim(t, []int{15, 17, 15}, []int{0, 24, 0}, 1)
}

// TestVictimLengths: 7.1, a zone of which live does not tell is none that is to be emptied; nor is one that is not there.
func TestVictimLengths(t *testing.T) {
	for zones := range 20 {
		spared(t, full(zones), nil)
		for n := 1; n < 20; n++ {
			if zones == 0 {
				spared(t, nil, make([]int, n))
				continue
			}
			both := min(zones, n)
			live := make([]int, n)
			for i := range live {
				live[i] = 100 - i
			}
			victim(t, full(zones), live, both-1)
			// The last zone of which live tells is the only full one; or the first of which it does not.
			at := make([]int, zones)
			at[both-1] = 16
			victim(t, at, live, both-1)
			if zones > n {
				at[n-1], at[n] = 15, 16
				spared(t, at, live)
				at[0] = 16
				victim(t, at, live, 0)
			}
		}
	}
	victim(t, []int{16, 16, 16}, []int{5, 4}, 1)
	spared(t, []int{0, 0, 16}, []int{0, 0})
	victim(t, []int{16, 0}, []int{5, 4, 0, 0}, 0)
	spared(t, []int{0, 0}, []int{0, 0, 0})
}

// heldFree counts free blocks one by one.
func heldFree(at []int) int {
	free := 0
	for _, n := range at {
		for block := range 16 {
			if block >= n {
				free++
			}
		}
	}
	return free
}

// heldOpen goes through zones backwards, so that the first one stays.
func heldOpen(at []int, but int) (int, bool) {
	first, ok := 0, false
	for i := len(at) - 1; i >= 0; i-- {
		if i != but && at[i] <= 15 {
			first, ok = i, true
		}
	}
	return first, ok
}

// heldVictim sorts full zones of which live tells, those that are alike staying in order.
func heldVictim(at, live []int) (int, bool) {
	var zones []int
	for i := range at {
		if at[i] > 15 && len(live) > i {
			zones = append(zones, i)
		}
	}
	sort.SliceStable(zones, func(i, j int) bool { return live[zones[i]] < live[zones[j]] })
	if len(zones) == 0 {
		return 0, false
	}
	return zones[0], true
}

// die is numbers that look drawn, the same each time.
type die uint32

func (d *die) n(most int) int {
	*d = *d*1664525 + 1013904223
	return int(uint32(*d)>>8) % most
}

// list is some drawn numbers, of those that are given.
func (d *die) list(most int, of []int) []int {
	var out []int
	for range d.n(most) {
		out = append(out, of[d.n(len(of))])
	}
	return out
}

// TestDrawnZones: 7.1, Free, Open and Victim of drawn zones, against second ways of asking.
func TestDrawnZones(t *testing.T) {
	d := die(1)
	blocks := append([]int{0, 1, 8, 14, 15, 15, 16, 16, 16, 16, 17, 18}, odd...)
	for range 20000 {
		at, live := d.list(12, blocks), d.list(12, []int{0, 0, 1, 1, 2, 3, 16, -1, math.MaxInt})
		free(t, at, heldFree(at))
		but := d.n(14) - 2
		if want, ok := heldOpen(at, but); ok {
			open(t, at, but, want)
		} else {
			shut(t, at, but)
		}
		if want, ok := heldVictim(at, live); ok {
			victim(t, at, live, want)
		} else {
			spared(t, at, live)
		}
	}
}

// TestDrawnTables: 7.1, Live and In of drawn tables: each cell with a tag is in its zone, and in no other one.
func TestDrawnTables(t *testing.T) {
	d := die(2)
	for range 5000 {
		var x api.Table
		for range d.n(40) {
			x.Cells[d.n(24)] = api.Cell{Zone: d.n(11) - 1, Off: d.n(18) - 1, Tag: someTag[:d.n(3)*8]}
		}
		cells := map[int][]int{}
		for i, c := range x.Cells {
			if len(c.Tag) > 0 {
				cells[c.Zone] = append(cells[c.Zone], i)
			}
		}
		var want []int
		for zone := range 8 {
			want = append(want, len(cells[zone]))
		}
		lives(t, x, want...)
		for zone := -3; zone < 12; zone++ {
			in(t, x, zone, cells[zone]...)
		}
	}
}

// TestDevice: the five of a device's own zones, which are filled one behind the other.
func TestDevice(t *testing.T) {
	d := zone.New()
	var x api.Table
	for n := range 8 * 16 {
		at := zones(t, d)
		free(t, at, 128-n)
		open(t, at, -1, n/16)
		if n/16 < 7 {
			open(t, at, n/16, n/16+1)
		} else {
			shut(t, at, 7)
		}
		off, err := d.Append(n/16, "b")
		if err != nil {
			t.Fatal(err)
		}
		x.Cells[n%24] = api.Cell{Zone: n / 16, Off: off, Tag: someTag}
	}
	at := zones(t, d)
	free(t, at, 0)
	shut(t, at, -1)
	lives(t, x, 0, 0, 0, 0, 0, 0, 8, 16)
	in(t, x, 6, 8, 9, 10, 11, 12, 13, 14, 15)
	in(t, x, 7, 0, 1, 2, 3, 4, 5, 6, 7, 16, 17, 18, 19, 20, 21, 22, 23)
	for n := range 6 {
		victim(t, at, Live(x), n)
		if err := d.Reset(n); err != nil {
			t.Fatal(err)
		}
		at = zones(t, d)
		free(t, at, 16*(n+1))
		open(t, at, -1, 0)
	}
	victim(t, at, Live(x), 6)
}

// zones is how many blocks each zone of a device has.
func zones(t *testing.T, d *zone.Device) []int {
	t.Helper()
	var at []int
	for n := range api.Zones {
		blocks, err := d.At(n)
		if err != nil {
			t.Fatal(err)
		}
		at = append(at, blocks)
	}
	return at
}

// TestFresh: P4, an answer is the caller's: what is done to it is not seen in another one, nor in the table.
func TestFresh(t *testing.T) {
	x := lain(0, 1, 2, 3, 4, 5, 6, 7, 7, 7)
	live, cells := Live(x), In(x, 7)
	for i := range live {
		live[i] = -9
	}
	for i := range cells {
		cells[i] = -9
	}
	_ = append(live, -9)
	_ = append(cells, -9)
	lives(t, x, 1, 1, 1, 1, 1, 1, 1, 3)
	in(t, x, 7, 7, 8, 9)
	if x != lain(0, 1, 2, 3, 4, 5, 6, 7, 7, 7) {
		t.Errorf("the table was changed: %v", x.Cells)
	}
	first, second := In(x, 7), In(x, 7)
	first[0] = -9
	if second[0] != 7 {
		t.Errorf("two answers are one list")
	}
}

// TestAgain: P4, an answer hangs on its arguments alone, whatever was asked between.
func TestAgain(t *testing.T) {
	type answer struct {
		free, open, victim int
		opened, told       bool
		live, in           string
	}
	text := func(list []int) string {
		var out strings.Builder
		for _, n := range list {
			out.WriteString(strings.Repeat("i", n+1) + ".")
		}
		return out.String()
	}
	ask := func(i int) answer {
		d := die(i)
		at, live := d.list(12, []int{-1, 0, 15, 16, 17}), d.list(12, []int{0, 1, 2})
		x := lain(d.list(24, []int{-1, 0, 1, 2, 3, 4, 5, 6, 7, 8})...)
		a := answer{free: Free(at), live: text(Live(x)), in: text(In(x, d.n(9)))}
		a.open, a.opened = Open(at, d.n(9)-1)
		a.victim, a.told = Victim(at, live)
		return a
	}
	var first []answer
	for i := range 500 {
		first = append(first, ask(i))
	}
	for i := 499; i >= 0; i-- {
		if ask(i) != first[i] {
			t.Errorf("of %d an answer is another one the second time", i)
		}
	}
}
