package files

import (
	"fmt"
	"maps"
	"reflect"
	"slices"
	"strings"
	"testing"
	"unsafe"

	"saltern/api"
	"saltern/meter"
	"saltern/plain"
	"saltern/volume"
	"saltern/zone"
)

// The heads are given: this does not build with others.
var (
	_ func(*zone.Device, *meter.Counter, string) (*Files, error) = Open
	_ func(*Files) []string                                      = (*Files).Names
	_ func(*Files, string) (string, error)                       = (*Files).Get
	_ func(*Files, string, string) error                         = (*Files).Put
	_ func(*Files, string) error                                 = (*Files).Del
	_ func(*Files) error                                         = (*Files).Flush
	_ func(*Files) (int, bool, error)                            = (*Files).Reclaim
	_ func(*Files) int                                           = (*Files).Count
	_ func(*Files) int                                           = (*Files).Free
)

const (
	secret = "0123456789abcdef"
	other  = "0123456789abcdeF"
)

// noNames are texts that no file may be called.
var noNames = []string{"", "A", "1a", "aB", "a b", " a", "a ", "a\n", "abcdefghijk", "a-b", "\x00", "a\x00", "ä", "aä", "`", "{", "a/", "a:", strings.Repeat("a", 5000)}

// rig is files, and what they stand on.
type rig struct {
	*testing.T
	d *zone.Device
	c *meter.Counter
	f *Files
}

func newRig(t *testing.T) *rig {
	t.Helper()
	r := &rig{t, zone.New(), &meter.Counter{}, nil}
	r.open()
	return r
}

// must holds an error to be the one that is asked for, in its plain form.
func must(t *testing.T, what string, err error, want api.Errno) {
	t.Helper()
	if e, place := plain.Place(err); e != want || place != -1 {
		t.Fatalf("%s: error %v (place %d), not %v", what, err, place, want)
	}
}

// open opens the files again.
func (r *rig) open() {
	r.Helper()
	f, err := Open(r.d, r.c, secret)
	must(r.T, "Open", err, api.OK)
	r.f = f
}

// refused holds Open to tell an error, no files beside it, and to leave the counter and the device as they were.
func (r *rig) refused(what string, want api.Errno) {
	r.Helper()
	count, image := r.c.Get(), r.d.Image()
	f, err := Open(r.d, r.c, secret)
	must(r.T, what+": Open", err, want)
	if f != nil || r.c.Get() != count || !reflect.DeepEqual(r.d.Image(), image) {
		r.Fatalf("%s: Open told files (%v), or changed the counter (%d to %d) or the device", what, f, count, r.c.Get())
	}
}

// crash is power that is lost, with all that is not sure; and the files are opened.
func (r *rig) crash() {
	r.Helper()
	r.d.Crash(nil, nil)
	r.open()
}

// put puts texts that must be taken: name, text, name, text ..
func (r *rig) put(l ...string) {
	r.Helper()
	for i := 0; i < len(l); i += 2 {
		must(r.T, "Put "+l[i], r.f.Put(l[i], l[i+1]), api.OK)
	}
}

func (r *rig) del(l ...string) {
	r.Helper()
	for _, name := range l {
		must(r.T, "Del "+name, r.f.Del(name), api.OK)
	}
}

func (r *rig) flush() {
	r.Helper()
	must(r.T, "Flush", r.f.Flush(), api.OK)
}

// says holds all files to what they say, and no others to be there.
func (r *rig) says(what string, want map[string]string) {
	r.Helper()
	if got, rising := r.f.Names(), slices.Sorted(maps.Keys(want)); !slices.Equal(got, rising) {
		r.Fatalf("%s: Names %v, not %v", what, got, rising)
	}
	for name, text := range want {
		r.get(what, name, text)
	}
	for _, name := range append([]string{"none", "a", "b", "zz"}, noNames...) {
		if _, ok := want[name]; !ok {
			r.missing(what, name)
		}
	}
}

func (r *rig) get(what, name, want string) {
	r.Helper()
	got, err := r.f.Get(name)
	must(r.T, what+": Get "+name, err, api.OK)
	if got != want {
		r.Fatalf("%s: %s says %q, not %q", what, name, got, want)
	}
}

func (r *rig) missing(what, name string) {
	r.Helper()
	got, err := r.f.Get(name)
	must(r.T, what+": Get "+name, err, api.ErrMissing)
	if got != "" {
		r.Fatalf("%s: %q beside an error", what, got)
	}
}

// cells holds all cells to what they say: these are told first, since only so another one sees them.
func (r *rig) cells(what string, want map[int]string) {
	r.Helper()
	r.flush()
	v, err := volume.Open(r.d, r.c, secret)
	must(r.T, "Open of the volume", err, api.OK)
	got := map[int]string{}
	for cell := range 24 {
		s, err := v.Read(cell)
		must(r.T, "Read", err, api.OK)
		if s != "" {
			got[cell] = s
		}
	}
	if !maps.Equal(got, want) {
		r.Fatalf("%s: cells say %v, not %v", what, got, want)
	}
}

// told is a rig without files, in whose volume cells were told to say that.
func told(t *testing.T, cells map[int]string) *rig {
	t.Helper()
	r := &rig{t, zone.New(), &meter.Counter{}, nil}
	v, err := volume.Open(r.d, r.c, secret)
	must(t, "Open of the volume", err, api.OK)
	for cell, text := range cells {
		must(t, "Write", v.Write(cell, text), api.OK)
	}
	must(t, "Flush of the volume", v.Flush(), api.OK)
	return r
}

// view is all that a device shows, sure or not.
func view(t *testing.T, d *zone.Device) api.Image {
	t.Helper()
	var m api.Image
	for z := range 8 {
		n, err := d.At(z)
		must(t, "At", err, api.OK)
		for off := range n {
			s, err := d.Read(z, off)
			must(t, "Read of a block", err, api.OK)
			m.Zones[z] = append(m.Zones[z], s)
		}
	}
	for i := range 2 {
		s, err := d.Get(i)
		must(t, "Get of a slot", err, api.OK)
		m.Slots[i] = s
	}
	return m
}

// untouched holds a call to leave all as it was, what is sure and what is not.
func (r *rig) untouched(what string, call func()) {
	r.Helper()
	type all struct {
		sure, view           api.Image
		count, counter, free int
		says                 map[string]string
	}
	look := func() all {
		says := map[string]string{}
		for _, name := range r.f.Names() {
			s, err := r.f.Get(name)
			must(r.T, "Get", err, api.OK)
			says[name] = s
		}
		return all{r.d.Image(), view(r.T, r.d), r.f.Count(), r.c.Get(), r.f.Free(), says}
	}
	was := look()
	call()
	if !reflect.DeepEqual(was, look()) {
		r.Fatalf("%s: something was changed", what)
	}
}

// junk appends blocks that are no cell's, until a zone has so many.
func (r *rig) junk(zone, blocks int) {
	r.Helper()
	for n, _ := r.d.At(zone); n < blocks; n++ {
		_, err := r.d.Append(zone, fmt.Sprint("junk ", n))
		must(r.T, "Append of junk", err, api.OK)
	}
	must(r.T, "Sync of junk", r.d.Sync(), api.OK)
}

// long is a text of so many bytes, of which no two cells' pieces are alike.
func long(n int) string {
	var b strings.Builder
	for i := 0; b.Len() < n; i++ {
		fmt.Fprintf(&b, "%d.", i)
	}
	return b.String()[:n]
}

// TestOpenArg: 10.1, the volume's errors.
func TestOpenArg(t *testing.T) {
	d, c := zone.New(), &meter.Counter{}
	cases := []struct {
		what string
		d    *zone.Device
		c    *meter.Counter
		s    string
		want api.Errno
	}{
		{"no device", nil, c, secret, api.ErrArg},
		{"no counter", d, nil, secret, api.ErrArg},
		{"nothing", nil, nil, "", api.ErrArg},
		{"a secret of 0 bytes", d, c, "", api.ErrArg},
		{"a secret of 15 bytes", d, c, secret[:15], api.ErrArg},
		{"a secret of 17 bytes", d, c, secret + "x", api.ErrArg},
		{"a secret of 16 bytes", d, c, secret, api.OK},
	}
	for _, x := range cases {
		f, err := Open(x.d, x.c, x.s)
		must(t, x.what, err, x.want)
		if (f == nil) != (x.want != api.OK) {
			t.Errorf("%s: files %v", x.what, f)
		}
	}
	r := told(t, map[int]string{0: "no directory"})
	_, err := Open(r.d, r.c, secret[1:])
	must(t, "a short secret, of what is spoilt", err, api.ErrArg)
}

// TestOpenNew: 10.1, of a new device there are no files.
func TestOpenNew(t *testing.T) {
	for _, d := range []*zone.Device{zone.New(), {}} {
		r := &rig{t, d, &meter.Counter{}, nil}
		r.open()
		r.says("new", nil)
		if r.f.Count() != 0 || r.f.Free() != 128 {
			t.Errorf("Count %d, Free %d", r.f.Count(), r.f.Free())
		}
		n, ok, err := r.f.Reclaim()
		must(t, "Reclaim", err, api.OK)
		if n != 0 || ok {
			t.Errorf("Reclaim %d, %v", n, ok)
		}
		must(t, "Del", r.f.Del("a"), api.ErrMissing)
	}
}

// TestOpenSpoilt: 10.1, what the volume tells spoilt: another secret, an elder image, another byte.
func TestOpenSpoilt(t *testing.T) {
	r := newRig(t)
	elder := r.d.Image()
	r.put("a", "one")
	r.flush()
	first := r.d.Image()
	r.put("a", "two", "b", "")
	r.flush()
	last := r.d.Image()
	for i, m := range []api.Image{elder, first} {
		r.d.Lay(m)
		r.refused(fmt.Sprint("elder image ", i), api.ErrSpoilt)
	}
	m := last
	m.Zones[0] = slices.Clone(last.Zones[0])
	end := len(m.Zones[0]) - 1
	m.Zones[0][end] = string([]byte{m.Zones[0][end][0] ^ 1}) + m.Zones[0][end][1:]
	r.d.Lay(m)
	r.refused("another byte", api.ErrSpoilt)
	r.d.Lay(last)
	if _, err := Open(r.d, r.c, other); api.Tell(err) != api.ErrSpoilt {
		t.Errorf("another secret: %v", err)
	}
	r.open()
	r.says("the last image", map[string]string{"a": "two", "b": ""})
}

// TestOpenNoDirectory: 10.1, cells 0 to 2 say something that is no DIRECTORY.
func TestOpenNoDirectory(t *testing.T) {
	many := ""
	for i := range 9 {
		many += fmt.Sprintf("n%d 0\n", i)
	}
	for i, cells := range []map[int]string{
		{0: "a"},
		{0: "a 0"},
		{0: "\n"},
		{0: "a 0\n\n"},
		{0: "a 0\n", 1: " "},
		{0: "a 0\n", 2: "a 0\n"},
		{0: "b 0\n", 1: "a 0\n"},
		{0: "A 0\n"},
		{0: "a 00\n"},
		{0: "a 1\n"},
		{0: "a 1 2\n"},
		{0: "a 1 24\n"},
		{0: "a 1 3 4\n"},
		{0: "a 1 3\nb 1 3\n"},
		{0: "a 81 3\n"},
		{0: "a 1681 " + many[:10]},
		{0: many},
		{0: strings.Repeat("\x00", 80)},
		{1: "x"},
		{2: "x"},
	} {
		r := told(t, cells)
		r.refused(fmt.Sprint("no directory ", i), api.ErrSpoilt)
	}
}

// TestOpenDirectory: 10.1, cells 0 to 2, one behind the other, however they are cut; no other cell is of it.
func TestOpenDirectory(t *testing.T) {
	for i, cells := range []map[int]string{
		{0: "a 3 5\nb 0\n"},
		{1: "a 3 5\nb 0\n"},
		{2: "a 3 5\nb 0\n"},
		{0: "a 3 5\n", 1: "b 0\n"},
		{0: "a 3 5\n", 2: "b 0\n"},
		{0: "a", 1: " 3 5\nb 0", 2: "\n"},
		{0: "a 3 5\nb 0\n", 3: "c 0\n", 4: "x", 23: "\n"},
	} {
		cells[5] = "abc"
		r := told(t, cells)
		r.open()
		r.says(fmt.Sprint("directory ", i), map[string]string{"a": "abc", "b": ""})
		// Whatever the cells said ahead of it, a DIRECTORY has Plain bytes a cell.
		r.put("b", "")
		want := maps.Clone(cells)
		delete(want, 1)
		delete(want, 2)
		want[0] = "a 3 5\nb 0\n"
		r.cells(fmt.Sprint("directory ", i), want)
	}
}

// TestGetCells: 10.1, what a file's cells say, in their order, whatever the directory tells of its bytes.
func TestGetCells(t *testing.T) {
	r := told(t, map[int]string{
		0: "a 81 7 3\nb 5 9\nc 5 10\nd 200 4 11 5\n",
		3: "three", 7: "seven", 10: "more than 5 bytes", 4: long(80), 5: "end",
	})
	r.open()
	r.says("cells", map[string]string{"a": "seventhree", "b": "", "c": "more than 5 bytes", "d": long(80) + "end"})
}

// TestGetBytes: 10.1, texts are bytes: each of them, at each cell's edge.
func TestGetBytes(t *testing.T) {
	var all []byte
	for i := range 256 {
		all = append(all, byte(i))
	}
	r := newRig(t)
	want := map[string]string{}
	for i, n := range []int{0, 1, 79, 80, 81, 159, 160, 161} {
		name := fmt.Sprint("n", i)
		want[name] = string(all[256-n:])
		r.put(name, want[name])
		r.says("put", want)
	}
	r.flush()
	r.crash()
	r.says("told", want)
}

// TestNames: 10.1, names rise byte by byte, in whichever order they were put.
func TestNames(t *testing.T) {
	names := []string{"a", "a0", "a10", "a9", "aa", "ab", "b", "z9"}
	order := slices.Clone(names)
	for turn := range 8 {
		order = append(order[1:], order[0])
		if turn%2 == 1 {
			slices.Reverse(order)
		}
		r := newRig(t)
		want := map[string]string{}
		for _, name := range order {
			want[name] = "of " + name
			r.put(name, want[name])
			r.says(fmt.Sprint(order), want)
		}
		r.flush()
		r.crash()
		r.says(fmt.Sprint(order), want)
		for _, name := range order {
			delete(want, name)
			r.del(name)
			r.says(fmt.Sprint(order), want)
		}
	}
}

// TestPutCells: 10.1, a text is written to the first cells that no other file has, Plain bytes a cell; the directory behind it; what cells said that no file has any more stays.
func TestPutCells(t *testing.T) {
	r := newRig(t)
	text := long(300)
	r.put("b", text[:161], "a", text[:80], "c", "")
	r.cells("three", map[int]string{0: "a 80 6\nb 161 3 4 5\nc 0\n", 3: text[:80], 4: text[80:160], 5: text[160:161], 6: text[:80]})
	r.put("b", "new")
	r.cells("shorter", map[int]string{0: "a 80 6\nb 3 3\nc 0\n", 3: "new", 4: text[80:160], 5: text[160:161], 6: text[:80]})
	r.put("c", text[:300])
	r.cells("in a hole", map[int]string{0: "a 80 6\nb 3 3\nc 300 4 5 7 8\n", 3: "new", 4: text[:80], 5: text[80:160], 6: text[:80], 7: text[160:240], 8: text[240:]})
	r.del("b")
	r.cells("gone", map[int]string{0: "a 80 6\nc 300 4 5 7 8\n", 3: "new", 4: text[:80], 5: text[80:160], 6: text[:80], 7: text[160:240], 8: text[240:]})
	// Its own cells are free for it, and one ahead of them, too.
	r.put("a", text[:81])
	r.cells("its own", map[int]string{0: "a 81 3 6\nc 300 4 5 7 8\n", 3: text[:80], 4: text[:80], 5: text[80:160], 6: text[80:81], 7: text[160:240], 8: text[240:]})
	r.put("a", "")
	r.cells("empty", map[int]string{0: "a 0\nc 300 4 5 7 8\n", 3: text[:80], 4: text[:80], 5: text[80:160], 6: text[80:81], 7: text[160:240], 8: text[240:]})
	r.says("all", map[string]string{"a": "", "c": text})
	r.del("a", "c")
	r.cells("none", map[int]string{3: text[:80], 4: text[:80], 5: text[80:160], 6: text[80:81], 7: text[160:240], 8: text[240:]})
	r.says("none", nil)
}

// TestDirectoryCells: 10.1, a directory that takes one cell, two, three, and fewer again; a cell behind its end says nothing.
func TestDirectoryCells(t *testing.T) {
	r := newRig(t)
	want, all := map[string]string{}, ""
	lines := []string{}
	for i := range 8 {
		name := fmt.Sprint("abcdefghi", i)
		n := []int{160, 240}[i%2]
		want[name] = strings.Repeat(fmt.Sprint(i), n)
		line := fmt.Sprint(name, " ", n)
		for j := range n / 80 {
			line += fmt.Sprint(" ", 3+i/2*5+i%2*2+j)
		}
		if i == 7 { // one cell less: there are 21
			want[name], line = want[name][:160], fmt.Sprint(name, " 160 20 21")
		}
		lines = append(lines, line+"\n")
		r.put(name, want[name])
		r.says("put", want)
	}
	hold := func(what string) {
		t.Helper()
		all = strings.Join(lines, "")
		cells := directoryCells(r)
		if strings.Join(cells, "") != all || len(cells[0]) != min(80, len(all)) || len(cells[1]) != min(80, max(0, len(all)-80)) {
			t.Fatalf("%s: the directory is %q, not %q", what, cells, all)
		}
	}
	hold("eight")
	if len(all) <= 160 {
		t.Fatalf("%d bytes do not take three cells", len(all))
	}
	for len(lines) > 0 {
		r.del(fmt.Sprint("abcdefghi", 8-len(lines)))
		delete(want, fmt.Sprint("abcdefghi", 8-len(lines)))
		lines = lines[1:]
		hold(fmt.Sprint(len(lines)))
		r.says("del", want)
		r.crash()
		r.says("del, and told", want)
	}
}

// directoryCells is what cells 0 to 2 say, once they were told.
func directoryCells(r *rig) []string {
	r.Helper()
	r.flush()
	v, err := volume.Open(r.d, r.c, secret)
	must(r.T, "Open of the volume", err, api.OK)
	var out []string
	for cell := range 3 {
		s, err := v.Read(cell)
		must(r.T, "Read", err, api.OK)
		out = append(out, s)
	}
	return out
}

// TestPutName: 10.1, ErrName, ahead of ErrFull, and of what a device that failed tells.
func TestPutName(t *testing.T) {
	r := newRig(t)
	hold := func(what string) {
		t.Helper()
		r.untouched(what, func() {
			for _, name := range noNames {
				for _, text := range []string{"", "x", long(1681)} {
					must(t, fmt.Sprintf("%s: Put %q", what, name), r.f.Put(name, text), api.ErrName)
				}
				must(t, fmt.Sprintf("%s: Del %q", what, name), r.f.Del(name), api.ErrMissing)
			}
		})
	}
	hold("new")
	for _, name := range []string{"a", "z", "a0", "z9", "a123456789", "zzzzzzzzzz", "abcdefghij"} {
		r.put(name, "x")
	}
	hold("seven")
	r.put("more", "x")
	hold("eight")
	r.d.Fuse(0)
	must(t, "Flush", r.f.Flush(), api.ErrDevice)
	hold("failed")
}

// TestPutMaxFiles: 10.1, ErrFull: there are MaxFiles others; one of those that there are is put all the same.
func TestPutMaxFiles(t *testing.T) {
	r := newRig(t)
	want := map[string]string{}
	for i := range 8 {
		name := fmt.Sprint("n", i)
		want[name] = name
		r.put(name, name)
	}
	full := func(what string) {
		t.Helper()
		r.untouched(what, func() {
			for _, name := range []string{"a", "n", "n00", "n8", "zz"} {
				for _, text := range []string{"", "x", "n1", long(2000)} {
					must(t, what+": Put "+name, r.f.Put(name, text), api.ErrFull)
				}
			}
		})
	}
	full("eight")
	for i := range 8 {
		name := fmt.Sprint("n", i)
		for _, text := range []string{name, "", "again " + name} {
			want[name] = text
			r.put(name, text)
			r.says("again", want)
		}
	}
	full("eight, put again")
	r.flush()
	r.crash()
	full("eight, opened again")
	r.del("n3")
	delete(want, "n3")
	r.put("z", "last")
	want["z"] = "last"
	r.says("another one", want)
	full("eight again")
	r.d.Fuse(0)
	must(t, "Flush", r.f.Flush(), api.ErrDevice)
	full("failed") // ahead of ErrState
}

// TestPutFull: 10.1, ErrFull: a text needs more cells than no other file has; the file's own are counted in.
func TestPutFull(t *testing.T) {
	r := newRig(t)
	refused := func(name string, n int) {
		t.Helper()
		r.untouched(fmt.Sprint(name, n), func() {
			must(t, fmt.Sprint("Put ", name, " of ", n), r.f.Put(name, long(n)), api.ErrFull)
		})
	}
	for _, n := range []int{1681, 1760, 1920, 1921, 5000, 100_000} {
		refused("a", n)
	}
	r.put("a", long(1680))
	r.says("all cells", map[string]string{"a": long(1680)})
	refused("b", 1)
	r.put("b", "") // takes none
	refused("b", 1)
	refused("a", 1681)
	r.put("a", "x"+long(1679))
	r.says("all cells again", map[string]string{"a": "x" + long(1679), "b": ""})
	r.put("a", long(1600))
	refused("b", 81)
	r.put("b", long(80))
	refused("a", 1601)
	refused("c", 1)
	r.put("a", long(81))
	refused("b", 19*80+1)
	r.put("b", long(19*80))
	r.says("both", map[string]string{"a": long(81), "b": long(19 * 80)})
	refused("a", 161)
	r.del("b")
	r.put("c", long(19*80))
	r.flush()
	r.crash()
	r.says("told", map[string]string{"a": long(81), "c": long(19 * 80)})
	r.d.Fuse(0)
	must(t, "Flush", r.f.Flush(), api.ErrDevice)
	refused("c", 19*80+1) // ahead of ErrState
	must(t, "Put", r.f.Put("c", "x"), api.ErrState)
}

// TestDel: 10.1, ErrMissing, and files that are gone, told or not.
func TestDel(t *testing.T) {
	r := newRig(t)
	gone := func(name string) {
		t.Helper()
		r.untouched("Del "+name, func() { must(t, "Del "+name, r.f.Del(name), api.ErrMissing) })
	}
	gone("a")
	r.put("a", "x", "b", "y")
	for _, name := range append([]string{"c", "aa", "ab"}, noNames...) {
		gone(name)
	}
	r.flush()
	r.del("a")
	gone("a")
	r.says("gone", map[string]string{"b": "y"})
	r.crash()
	r.says("not told", map[string]string{"a": "x", "b": "y"})
	r.del("a")
	r.flush()
	r.crash()
	r.says("told", map[string]string{"b": "y"})
	r.put("a", "z")
	r.del("b", "a")
	r.says("none", nil)
	r.flush()
	r.crash()
	r.says("none, and told", nil)
	r.d.Fuse(0)
	must(t, "Flush", r.f.Flush(), api.ErrDevice)
	gone("a") // ahead of ErrState
}

// TestSame: 10.1 by way of 8.2, what is said already is not written again; a device that failed tells ErrState all the same.
func TestSame(t *testing.T) {
	r := newRig(t)
	r.put("a", long(200), "b", "")
	r.untouched("put again", func() { r.put("a", long(200), "b", "") })
	free := r.f.Free()
	r.put("a", long(199)+"!") // the last of its cells alone; the directory is as it was
	if r.f.Free() != free-1 {
		t.Errorf("%d blocks were written", free-r.f.Free())
	}
	r.d.Fuse(0)
	must(t, "Flush", r.f.Flush(), api.ErrDevice)
	r.d.Fuse(-1)
	r.untouched("failed", func() {
		must(t, "Put", r.f.Put("a", long(199)+"!"), api.ErrState)
		must(t, "Put", r.f.Put("b", ""), api.ErrState)
		must(t, "Put", r.f.Put("c", ""), api.ErrState)
		must(t, "Put", r.f.Put("c", "x"), api.ErrState)
		must(t, "Del", r.f.Del("a"), api.ErrState)
		must(t, "Flush", r.f.Flush(), api.ErrState)
		n, ok, err := r.f.Reclaim()
		must(t, "Reclaim", err, api.ErrState)
		if n != 0 || ok {
			t.Errorf("%d, %v beside an error", n, ok)
		}
	})
}

// pieces is what three cells say of which so many were written anew.
func pieces(was, text string, written int) string {
	out := ""
	for i := range 3 {
		s := was
		if i < written {
			s = text
		}
		out += s[min(len(s), i*80):min(len(s), i*80+80)]
	}
	return out
}

// TestPutError: 10.1, behind each error of Write what was written ahead of it stays, and which files there are, and which cells they have, is as it was.
func TestPutError(t *testing.T) {
	was, text := strings.Repeat("w", 240), strings.Repeat("n", 170)
	for fuse := range 4 {
		what := fmt.Sprint("fuse ", fuse)
		r := newRig(t)
		r.put("a", was, "b", "bb")
		r.flush()
		r.d.Fuse(fuse)
		// The directory is written behind three cells.
		must(t, what, r.f.Put("a", text), api.ErrDevice)
		r.says(what, map[string]string{"a": pieces(was, text, fuse), "b": "bb"})
		must(t, what, r.f.Put("a", text), api.ErrState)
		r.says(what, map[string]string{"a": pieces(was, text, fuse), "b": "bb"})
		r.crash()
		r.says("told last", map[string]string{"a": was, "b": "bb"})
		r.d.Fuse(4)
		r.put("a", text)
		r.says("done", map[string]string{"a": text, "b": "bb"})
	}
}

// TestPutNewError: 10.1, a file whose Put told an error is not there, and nobody has its cells.
func TestPutNewError(t *testing.T) {
	for fuse := range 3 {
		what := fmt.Sprint("fuse ", fuse)
		r := newRig(t)
		r.put("b", "bb")
		r.flush()
		r.d.Fuse(fuse)
		must(t, what, r.f.Put("a", strings.Repeat("n", 150)), api.ErrDevice)
		r.says(what, map[string]string{"b": "bb"})
		must(t, what, r.f.Del("a"), api.ErrMissing)
		r.crash()
		r.says("told last", map[string]string{"b": "bb"})
		r.put("a", "x")
		r.says("put again", map[string]string{"a": "x", "b": "bb"})
	}
}

// wide is files whose directory takes three cells.
func wide(t *testing.T) (*rig, map[string]string) {
	t.Helper()
	r, says := newRig(t), map[string]string{}
	for i := range 8 {
		name := fmt.Sprint("abcdefghi", i)
		says[name] = strings.Repeat(fmt.Sprint(i), []int{160, 161, 240}[i%3])
		if i == 7 {
			says[name] = "7"
		}
		r.put(name, says[name])
	}
	r.flush()
	return r, says
}

// TestDirectoryError: 10.1, errors at each of the directory's cells: which files there are, and which cells they have, is as it was.
func TestDirectoryError(t *testing.T) {
	const name, deeds = "abcdefghi0", 4
	for fuse := range deeds + 1 {
		what := fmt.Sprint("fuse ", fuse)
		r, says := wide(t)
		told := maps.Clone(says)
		// One of its two cells says less then; and with one digit less, each of the directory's cells is another one.
		text, want := says[name][:99], api.ErrDevice
		if fuse > 0 {
			says[name] = text
		}
		if fuse == deeds {
			want = api.OK
		}
		r.d.Fuse(fuse)
		must(t, what, r.f.Put(name, text), want)
		r.says(what, says)
		if want == api.OK {
			told = says
			r.d.Fuse(-1)
			r.flush()
		}
		r.crash()
		r.says(what+", told last", told)
	}
}

// TestDelError: 10.1, a file whose Del told an error is there, as it was.
func TestDelError(t *testing.T) {
	const deeds = 2 // a third cell says nothing any more
	for fuse := range deeds + 1 {
		what := fmt.Sprint("fuse ", fuse)
		r, says := wide(t)
		r.d.Fuse(fuse)
		if fuse == deeds {
			r.del("abcdefghi0")
			delete(says, "abcdefghi0")
			r.says(what, says)
			continue
		}
		must(t, what, r.f.Del("abcdefghi0"), api.ErrDevice)
		r.says(what, says)
		must(t, what, r.f.Del("abcdefghi0"), api.ErrState)
		r.crash()
		r.says(what+", told last", says)
		r.del("abcdefghi0")
		delete(says, "abcdefghi0")
		r.says(what+", done", says)
	}
}

// crammed is files on a device that has no room: each zone is full, and of each some blocks are cells'.
func crammed(t *testing.T, room int) (*rig, map[string]string) {
	t.Helper()
	r, says := newRig(t), map[string]string{}
	for i := range 8 {
		name := fmt.Sprint("n", i)
		says[name] = strings.Repeat(fmt.Sprint(i), 160)
		r.put(name, says[name])
		// So that the next one lies in another zone; ahead of the last one so few blocks are free that what lies in a zone is moved to zone 7.
		if i < 7 {
			r.junk(i, 16)
		}
	}
	r.flush()
	r.junk(0, 16)
	r.junk(7, 16-room)
	if r.f.Free() != room {
		t.Fatalf("%d blocks are free", r.f.Free())
	}
	return r, says
}

// TestWriteFull: 10.1, Write tells ErrFull: which files there are is as it was, and they go on.
func TestWriteFull(t *testing.T) {
	for room := range 2 {
		r, says := crammed(t, room)
		for _, text := range []string{"x", long(160), says["n1"] + "x", says["n1"][:100], ""} {
			what := fmt.Sprint("room ", room, ", ", len(text), " bytes")
			must(t, what, r.f.Put("n1", text), api.ErrFull)
			r.says(what, says)
			must(t, what, r.f.Del("n1"), api.ErrFull)
			r.says(what, says)
		}
		r.put("n1", says["n1"]) // is said already
		r.flush()
		r.crash()
		r.says("told", says)
		must(t, "Reset", r.d.Reset(7), api.OK)
		r.refused("a zone that another one emptied", api.ErrSpoilt)
	}
	r, says := crammed(t, 2) // as many as the least zone has
	r.put("n1", "x")
	says["n1"] = "x"
	r.says("room 2", says)
	r.flush()
	r.crash()
	r.says("room 2, told", says)
}

// losses are ways in which power is lost: of each zone so many blocks are kept, and a slot or not.
func losses() (keeps [][]int, slots [][]bool) {
	for n := range 10 {
		keeps = append(keeps, slices.Repeat([]int{n}, 8))
	}
	return append(keeps, nil), [][]bool{nil, {true}}
}

// TestCrash: 10.1 by way of 8.4, power that is lost behind each deed of puts, a Del and a Flush: all of it is there, or nothing; and the files go on.
func TestCrash(t *testing.T) {
	last := map[string]string{"a": long(240), "b": "bb", "c": ""}
	being := map[string]string{"a": long(100)[1:], "c": long(170), "d": "new"}
	work := func(r *rig) error {
		for _, f := range []func() error{
			func() error { return r.f.Put("a", being["a"]) },
			func() error { return r.f.Del("b") },
			func() error { return r.f.Put("c", being["c"]) },
			func() error { return r.f.Put("d", being["d"]) },
			r.f.Flush,
		} {
			if err := f(); err != nil {
				return err
			}
		}
		return nil
	}
	const deeds = 3 + 1 + 4 + 2 + 3
	keeps, slots := losses()
	for fuse := range deeds + 1 {
		for _, keep := range keeps {
			for _, slot := range slots {
				what := fmt.Sprint("fuse ", fuse, ", kept ", keep, slot)
				r := newRig(t)
				r.put("a", last["a"], "b", last["b"], "c", last["c"])
				r.flush()
				r.d.Fuse(fuse)
				err := work(r)
				if (err == nil) != (fuse == deeds) || err != nil && api.Tell(err) != api.ErrDevice {
					t.Fatalf("%s: %v", what, err)
				}
				r.d.Crash(keep, slot)
				r.open()
				want, count := last, 1
				if fuse >= deeds || fuse == deeds-1 && slot != nil {
					want, count = being, 2
				}
				r.says(what, want)
				if r.f.Count() != count || r.c.Get() != count {
					t.Fatalf("%s: Count %d, counter %d", what, r.f.Count(), r.c.Get())
				}
				must(t, what, work(r), []api.Errno{api.OK, api.ErrMissing}[count-1])
			}
		}
	}
}

// TestAlwaysRoom: 10.1 by way of 8.2, files are put again and again, with all cells taken: there is always room, also when power is lost at times.
func TestAlwaysRoom(t *testing.T) {
	r := newRig(t)
	want := map[string]string{}
	free := 128
	for i := range 300 {
		name := fmt.Sprint("n", i%7)
		want[name] = fmt.Sprint("turn ", i, " ", long(200+i%25))
		r.put(name, want[name])
		r.says(fmt.Sprint("turn ", i), want)
		free = min(free, r.f.Free())
		if i%10 == 9 {
			r.flush()
			r.crash()
			r.says(fmt.Sprint("turn ", i, ", told"), want)
		}
	}
	if free > 21 || r.f.Count() < 50 {
		t.Errorf("at least %d blocks were free, Count %d: no zone was emptied", free, r.f.Count())
	}
}

// leave appends blocks that are no cell's, until so many are free.
func (r *rig) leave(free int) {
	r.Helper()
	for z := range 8 {
		n, err := r.d.At(z)
		must(r.T, "At", err, api.OK)
		r.junk(z, min(16, n+max(0, r.f.Free()-free)))
	}
	if r.f.Free() != free {
		r.Fatalf("%d blocks are free, not %d", r.f.Free(), free)
	}
}

// TestRoomWithin: 10.1 by way of 8.2, a zone is emptied in the midst of a Put, wherever that is: the file says what it was told, at once and behind a Flush.
func TestRoomWithin(t *testing.T) {
	emptied := 0
	for free := 15; free < 50; free++ {
		r, says := wide(t)
		r.leave(free)
		was := r.f.Count()
		says["abcdefghi5"] = strings.Repeat("n", 99)
		r.put("abcdefghi5", says["abcdefghi5"])
		if r.f.Count() > was {
			emptied++
		}
		r.says(fmt.Sprint(free, " free"), says)
		r.flush()
		r.crash()
		r.says(fmt.Sprint(free, " free, told"), says)
	}
	if emptied < 5 {
		t.Errorf("zones were emptied %d times alone", emptied)
	}
}

// TestRoomAhead: 10.1 by way of 8.2, the longest Put writes 24 blocks; where 44 are free, none is written with no more than Reserve left, and nothing is told in its midst.
func TestRoomAhead(t *testing.T) {
	for free, told := range map[int]int{43: 1, 44: 0} {
		r := newRig(t)
		for i := range 8 {
			r.put(fmt.Sprint("abcdefghi", i), "")
		}
		r.flush()
		r.leave(free)
		// With all cells in the first line, each of the directory's three says something else.
		r.put("abcdefghi0", long(1680))
		if r.f.Count() != 1+told || told == 0 && r.f.Free() != free-24 {
			t.Errorf("%d blocks were free: Count %d, Free %d", free, r.f.Count(), r.f.Free())
		}
		r.get("put", "abcdefghi0", long(1680))
	}
}

// TestToldWithin: 10.1 by way of 8.2 and 8.3, a zone that is emptied in the midst of the directory tells what was written ahead of it, and only that; if power is lost behind it, that is no DIRECTORY any more.
func TestToldWithin(t *testing.T) {
	const name = "abcdefghi0"
	r, says := wide(t)
	was := directoryCells(r)
	r.leave(22) // a cell of the file, and the directory's first one
	r.put(name, says[name][:99])
	says[name] = says[name][:99]
	r.says("put", says)
	now := strings.Replace(strings.Join(was, ""), name+" 160 ", name+" 99 ", 1)
	r.d.Crash(nil, nil)
	v, err := volume.Open(r.d, r.c, secret)
	must(t, "Open of the volume", err, api.OK)
	for cell, want := range []string{now[:80], was[1], was[2]} {
		if got, err := v.Read(cell); got != want || err != nil {
			t.Errorf("cell %d says %q, %v, not %q", cell, got, err, want)
		}
	}
	r.refused("of this and of that", api.ErrSpoilt)
}

// TestVolume: 10.1, Flush, Reclaim, Count and Free are the volume's.
func TestVolume(t *testing.T) {
	r := newRig(t)
	for i := range 9 {
		r.put("a", fmt.Sprint(i), "b", "same")
	}
	r.flush()
	// Nine of a, one of b, and two directories, of which zone 0 has all.
	if r.f.Count() != 1 || r.c.Get() != 1 || r.f.Free() != 128-12 {
		t.Errorf("Count %d, counter %d, Free %d", r.f.Count(), r.c.Get(), r.f.Free())
	}
	n, ok, err := r.f.Reclaim()
	if n != 0 || ok || err != nil {
		t.Errorf("Reclaim without a full zone: %d, %v, %v", n, ok, err)
	}
	r.junk(0, 16)
	n, ok, err = r.f.Reclaim()
	if n != 3 || !ok || err != nil {
		t.Errorf("Reclaim: %d, %v, %v", n, ok, err)
	}
	if r.f.Count() != 2 || r.c.Get() != 2 || r.f.Free() != 128-3 {
		t.Errorf("Count %d, counter %d, Free %d", r.f.Count(), r.c.Get(), r.f.Free())
	}
	r.d.Fuse(0)
	must(t, "Flush", r.f.Flush(), api.ErrDevice)
	n, ok, err = r.f.Reclaim()
	must(t, "Reclaim", err, api.ErrState)
	if n != 0 || ok {
		t.Errorf("%d, %v beside an error", n, ok)
	}
	r.crash()
	r.says("told", map[string]string{"a": "8", "b": "same"})
}

// TestEach: 10.1, each file for itself: what is done to one is not seen in another one.
func TestEach(t *testing.T) {
	r := newRig(t)
	want := map[string]string{}
	names := []string{"a", "b", "c", "d"}
	for i := range 200 {
		name, n := names[i*7%4], i*53%420
		if i%9 == 8 {
			if _, ok := want[name]; ok {
				r.del(name)
				delete(want, name)
			}
		} else {
			want[name] = strings.Repeat(fmt.Sprint(i%10), n)
			r.put(name, want[name])
		}
		r.says(fmt.Sprint("turn ", i), want)
	}
}

// TestTwo: P1, two that have one device see what is done to it; which files there are, each knows by itself until it is opened again.
func TestTwo(t *testing.T) {
	r := newRig(t)
	r.put("a", "x")
	r.flush()
	first := r.f
	r.open()
	r.put("b", "y")
	if first.Free() != r.f.Free() || first.Free() != 128-4 {
		t.Errorf("Free %d, %d", first.Free(), r.f.Free())
	}
	if !slices.Equal(first.Names(), []string{"a"}) {
		t.Errorf("Names %v", first.Names())
	}
	r.flush()
	r.crash()
	r.says("told", map[string]string{"a": "x", "b": "y"})
}

// TestZero: P1, a zero value, and nil: no files, no device.
func TestZero(t *testing.T) {
	for _, f := range []*Files{nil, {}} {
		r := &rig{t, zone.New(), &meter.Counter{}, f}
		for range 2 {
			r.says("zero", nil)
			must(t, "Put", f.Put("A", long(2000)), api.ErrName)
			must(t, "Put", f.Put("a", long(1681)), api.ErrFull)
			must(t, "Put", f.Put("a", long(1680)), api.ErrState)
			must(t, "Put", f.Put("a", ""), api.ErrState)
			must(t, "Del", f.Del("a"), api.ErrMissing)
			must(t, "Flush", f.Flush(), api.ErrState)
			n, ok, err := f.Reclaim()
			must(t, "Reclaim", err, api.ErrState)
			if n != 0 || ok || f.Count() != 0 || f.Free() != 0 {
				t.Errorf("Reclaim %d, %v, Count %d, Free %d", n, ok, f.Count(), f.Free())
			}
		}
	}
}

// within says whether a text lies in another one's memory.
func within(s, in string) bool {
	at, first := uintptr(unsafe.Pointer(unsafe.StringData(s))), uintptr(unsafe.Pointer(unsafe.StringData(in)))
	return at >= first && at < first+uintptr(len(in))
}

// TestFresh: P4, what comes out is the caller's; a name and a text that were handed in are not kept.
func TestFresh(t *testing.T) {
	r := newRig(t)
	line := "put name " + long(100)
	r.put(line[4:8], line[9:], "b", line[9:12])
	names := r.f.Names()
	for _, name := range names {
		if within(name, line) {
			t.Errorf("the name %s lies in what was handed in", name)
		}
	}
	for _, name := range []string{"name", "b"} {
		s, err := r.f.Get(name)
		must(t, "Get", err, api.OK)
		if within(s, line) {
			t.Errorf("what %s says lies in what was handed in", name)
		}
	}
	for i := range names {
		names[i] = "other"
	}
	_ = append(names[:1], "other", "other")
	r.says("names changed", map[string]string{"name": long(100), "b": "0.1"})
	kept := r.f.Names()
	r.put("a", "")
	r.del("b")
	if !slices.Equal(kept, []string{"b", "name"}) {
		t.Errorf("names that were told became %v", kept)
	}
}
