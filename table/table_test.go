package table

import (
	"crypto/sha256"
	"encoding/binary"
	"encoding/hex"
	"math"
	"strings"
	"testing"
	"unsafe"

	"saltern/api"
	"saltern/plain"
	"saltern/zone"
)

// The heads are given: this does not build with others.
var (
	_ func(api.Table) bool                    = Right
	_ func(string, api.Table) (string, error) = Write
	_ func(string, string) (api.Table, error) = Parse
)

const (
	someKey = "0123456789abcdef0123456789abcdef"
	someTag = "a tag, 16 bytes!"
	size    = 456 // bytes of a table: a mark of 16, a count of 8, 24 cells of 18
	none    = "ff0000000000000000000000000000000000"
)

// known are tables, in hexadecimal digits, that another program made by the document's words.
var known = []struct {
	key         string
	table       api.Table
	mark, cells string
}{
	{someKey, told(1), "6ec584bc85d79b8c3874d38911cdfe24", "0000000000000001" + strings.Repeat(none, 24)},
	{someKey, told(1, at{0, 0, 0, strings.Repeat("\x00", 16)}), "863279e88ade3ab59c304c8405bfc2a5",
		"0000000000000001" + "000000000000000000000000000000000000" + strings.Repeat(none, 23)},
	{strings.Repeat("\x00", 32), told(1<<40, at{23, 7, 15, strings.Repeat("\xff", 16)}), "b352280410a78fa2104022137acca079",
		"0000010000000000" + strings.Repeat(none, 23) + "070fffffffffffffffffffffffffffffffff"},
	{strings.Repeat("\xff", 32), told(258, at{0, 7, 15, rising(0xf0, 16)}, at{3, 7, 0, someTag}, at{23, 0, 15, someTag}), "8e87fa0d0e62d4a5e842ae61767bdb1d",
		"0000000000000102" + "070ff0f1f2f3f4f5f6f7f8f9fafbfcfdfeff" + none + none + "070061207461672c20313620627974657321" + strings.Repeat(none, 19) + "000f61207461672c20313620627974657321"},
	{rising(0, 32), full(1<<40 - 1), "ea366107bde0bea7ce612f750a4dfb7d",
		"000000ffffffffff" +
			"000f000102030405060708090a0b0c0d0e0f" + "000e101112131415161718191a1b1c1d1e1f" + "000d202122232425262728292a2b2c2d2e2f" +
			"010c303132333435363738393a3b3c3d3e3f" + "010b404142434445464748494a4b4c4d4e4f" + "010a505152535455565758595a5b5c5d5e5f" +
			"0209606162636465666768696a6b6c6d6e6f" + "0208707172737475767778797a7b7c7d7e7f" + "0207808182838485868788898a8b8c8d8e8f" +
			"0306909192939495969798999a9b9c9d9e9f" + "0305a0a1a2a3a4a5a6a7a8a9aaabacadaeaf" + "0304b0b1b2b3b4b5b6b7b8b9babbbcbdbebf" +
			"0403c0c1c2c3c4c5c6c7c8c9cacbcccdcecf" + "0402d0d1d2d3d4d5d6d7d8d9dadbdcdddedf" + "0401e0e1e2e3e4e5e6e7e8e9eaebecedeeef" +
			"0500f0f1f2f3f4f5f6f7f8f9fafbfcfdfeff" + "050f000102030405060708090a0b0c0d0e0f" + "050e101112131415161718191a1b1c1d1e1f" +
			"060d202122232425262728292a2b2c2d2e2f" + "060c303132333435363738393a3b3c3d3e3f" + "060b404142434445464748494a4b4c4d4e4f" +
			"070a505152535455565758595a5b5c5d5e5f" + "0709606162636465666768696a6b6c6d6e6f" + "0708707172737475767778797a7b7c7d7e7f"},
}

// forged are texts of the same program, each with its right mark by someKey, as which no table is written.
var forged = []struct{ mark, cells string }{
	{"04d63ec40b5d1958a5c660960fa70bd0", "0000000000000000" + strings.Repeat(none, 24)},
	{"451c6502de993e9759f67ad11c6892ce", "0000010000000001" + strings.Repeat(none, 24)},
	{"f69915c843a65031b5c9381a5512c264", "0000000000000001" + "0800" + strings.Repeat("74", 16) + strings.Repeat(none, 23)},
	{"3a530065b75bfb8a532eb508d9ef9381", "0000000000000001" + "0010" + strings.Repeat("74", 16) + strings.Repeat(none, 23)},
	{"1c2830651fdf95e44810503d3e12bc95", "0000000000000001" + "ff0100000000000000000000000000000000" + strings.Repeat(none, 23)},
	{"343521c653fe7c2ef9dcf3151896a2d2", "0000000000000001" + strings.Repeat("0304"+strings.Repeat("74", 16), 2) + strings.Repeat(none, 22)},
}

// at is a cell's number, and what it is.
type at struct {
	cell, zone, off int
	tag             string
}

// told is a table of a count, with these cells alone.
func told(count int, cells ...at) api.Table {
	t := api.Table{Count: count}
	for _, c := range cells {
		t.Cells[c.cell] = api.Cell{Zone: c.zone, Off: c.off, Tag: c.tag}
	}
	return t
}

// full is a table of a count, of which each cell says something.
func full(count int) api.Table {
	t := api.Table{Count: count}
	for i := range t.Cells {
		t.Cells[i] = api.Cell{Zone: i / 3, Off: 15 - i%16, Tag: rising(byte(16*i), 16)}
	}
	return t
}

// rising is so many bytes, each one above the one ahead of it.
func rising(first byte, n int) string {
	out := make([]byte, n)
	for i := range out {
		out[i] = first + byte(i)
	}
	return string(out)
}

// drawn is a text of so many bytes, few of them alike, many of them no UTF-8.
func drawn(seed, n int) string {
	out := make([]byte, n)
	x := uint32(seed)*2654435761 + 1
	for i := range out {
		x = x*1664525 + 1013904223
		out[i] = byte(x >> 24)
	}
	return string(out)
}

// heldMark is a mark made another way, from the library's SHA-256.
func heldMark(kind byte, parts ...string) string {
	all := []byte{kind}
	for _, part := range parts {
		all = binary.BigEndian.AppendUint64(all, uint64(len(part)))
		all = append(all, part...)
	}
	mark := sha256.Sum256(all)
	return string(mark[:16])
}

// forge is any text with its right mark ahead.
func forge(key, rest string) string {
	return heldMark('t', key, rest) + rest
}

// spread is a table as bytes, without a mark, whether it may be or not (of numbers that are too great the last bytes).
func spread(x api.Table) string {
	all := binary.BigEndian.AppendUint64(nil, uint64(x.Count))
	for _, c := range x.Cells {
		if c.Zone == 0 && c.Off == 0 && c.Tag == "" {
			c = api.Cell{Zone: 255, Tag: strings.Repeat("\x00", 16)}
		}
		all = append(all, byte(c.Zone), byte(c.Off))
		all = append(all, c.Tag...)
	}
	return string(all)
}

// heldRight says whether a table may be, each two cells held against each other.
func heldRight(x api.Table) bool {
	for i, c := range x.Cells {
		zero := c.Tag == "" && c.Zone == 0 && c.Off == 0
		if !zero && (len(c.Tag) != 16 || c.Zone < 0 || c.Zone > 7 || c.Off < 0 || c.Off > 15) {
			return false
		}
		for _, other := range x.Cells[:i] {
			if c.Tag != "" && other.Tag != "" && other.Zone == c.Zone && other.Off == c.Off {
				return false
			}
		}
	}
	return x.Count >= 1 && x.Count <= 1099511627776
}

// must holds an error to be the one that is asked for (of OK: nil), without a place.
func must(t *testing.T, what string, err error, want api.Errno) {
	t.Helper()
	if e, place := plain.Place(err); e != want || place != -1 || (err == nil) != (want == api.OK) {
		t.Errorf("%s: error %v (place %d), not %v", what, err, place, want)
	}
}

// wrote holds a table to be Right, Write to tell it byte by byte, and Parse to read it again, with and without 0 behind.
func wrote(t *testing.T, key string, x api.Table) string {
	t.Helper()
	if !Right(x) {
		t.Errorf("it is not Right: %x", x)
	}
	s, err := Write(key, x)
	must(t, "Write", err, api.OK)
	if want := forge(key, spread(x)); s != want || len(s) != size {
		t.Errorf("Write of %x: %x, not %x", x, s, want)
	}
	parsed(t, key, s, x)
	parsed(t, key, s+strings.Repeat("\x00", api.Slot-size), x)
	return s
}

// unwritten holds a table not to be Right, and Write to ErrArg and to no text beside it (P2).
func unwritten(t *testing.T, x api.Table) {
	t.Helper()
	if Right(x) {
		t.Errorf("it is Right: %x", x)
	}
	refused(t, someKey, x)
}

// refused holds Write to ErrArg and to no text beside it (P2).
func refused(t *testing.T, key string, x api.Table) {
	t.Helper()
	s, err := Write(key, x)
	must(t, "Write", err, api.ErrArg)
	if s != "" {
		t.Errorf("Write of a key of %d bytes and %x: %x beside an error", len(key), x, s)
	}
}

// parsed holds Parse to the table that is asked for.
func parsed(t *testing.T, key, s string, want api.Table) {
	t.Helper()
	got, err := Parse(key, s)
	must(t, "Parse", err, api.OK)
	if got != want {
		t.Errorf("Parse of %d bytes: %x, not %x", len(s), got, want)
	}
}

// unparsed holds Parse to an error, and to no table beside it (P2).
func unparsed(t *testing.T, key, s string, want api.Errno) {
	t.Helper()
	got, err := Parse(key, s)
	must(t, "Parse", err, want)
	if got != (api.Table{}) {
		t.Errorf("Parse of a key of %d bytes and %d bytes: %x beside an error", len(key), len(s), got)
	}
}

// spoilt holds Parse to ErrSpoilt of a text that has its right mark.
func spoilt(t *testing.T, rest string) {
	t.Helper()
	unparsed(t, someKey, forge(someKey, rest), api.ErrSpoilt)
	unparsed(t, someKey, forge(someKey, rest)+strings.Repeat("\x00", api.Slot-size), api.ErrSpoilt)
}

// changed is a text of which one byte is another one.
func changed(s string, i int, b byte) string {
	return s[:i] + string([]byte{b}) + s[i+1:]
}

// TestKnown: 6.1, by known tables.
func TestKnown(t *testing.T) {
	for _, k := range known {
		s := wrote(t, k.key, k.table)
		if got := hex.EncodeToString([]byte(s)); got != k.mark+k.cells {
			t.Errorf("Write of %x: %s, not %s", k.table, got, k.mark+k.cells)
		}
		if got := hex.EncodeToString([]byte(forge(k.key, spread(k.table)))); got != k.mark+k.cells {
			t.Errorf("the other way of %x is wrong", k.table)
		}
	}
}

// TestForgedKnown: 6.1, ErrSpoilt of known texts with right marks as which no table is written.
func TestForgedKnown(t *testing.T) {
	for _, f := range forged {
		s, err := hex.DecodeString(f.mark + f.cells)
		if err != nil {
			t.Fatal(err)
		}
		if string(s) != forge(someKey, string(s[16:])) {
			t.Errorf("the mark of %x is another one", s)
		}
		unparsed(t, someKey, string(s), api.ErrSpoilt)
	}
}

// TestCounts: 6.1, counts from 1 to 2^40 may be, and none below or above, nor as a text with its right mark.
func TestCounts(t *testing.T) {
	for _, count := range []int{1, 2, 3, 255, 256, 1<<31 - 1, 1 << 31, 1<<32 - 1, 1 << 32, 1<<32 + 1, 1<<40 - 1, 1 << 40, 0x0102030405} {
		wrote(t, someKey, told(count))
		wrote(t, someKey, full(count))
	}
	for _, count := range []int{0, -1, -2, -1 << 32, -1 << 40, math.MinInt, math.MinInt + 1, 1<<40 + 1, 1<<40 + 2, 1 << 41, 1<<48 + 1, 1<<56 + 1, 1<<62 + 1, math.MaxInt} {
		for _, x := range []api.Table{told(count), full(count)} {
			unwritten(t, x)
			spoilt(t, spread(x))
		}
	}
	unwritten(t, api.Table{})
}

// TestAllZero: 6.1, a table whose cells are all zero may be.
func TestAllZero(t *testing.T) {
	s := wrote(t, someKey, told(1))
	for i := range 24 {
		if got := s[24+18*i : 42+18*i]; got != "\xff"+strings.Repeat("\x00", 17) {
			t.Errorf("cell %d, which is zero, is written %x", i, got)
		}
	}
}

// TestPlaces: 6.1, each zone and each block of it may be, in each cell, and none below or behind, even where a byte would not hold it.
func TestPlaces(t *testing.T) {
	numbers := []int{255, 256, 257, 1 << 16, 1 << 32, 1<<32 + 1, -255, -256, -1 << 32, math.MinInt, math.MaxInt}
	for n := -3; n < 40; n++ {
		numbers = append(numbers, n)
	}
	for i := range 24 {
		for _, zone := range numbers {
			for _, off := range []int{-1, 0, 7, 15, 16} {
				place(t, i, zone, off)
			}
		}
		for _, off := range numbers {
			for _, zone := range []int{-1, 0, 4, 7, 8} {
				place(t, i, zone, off)
			}
		}
	}
}

// place holds a table with a cell at such a place, alone, to be as the document asks.
func place(t *testing.T, cell, zone, off int) {
	t.Helper()
	x := told(9, at{cell, zone, off, someTag})
	if zone >= 0 && zone <= 7 && off >= 0 && off <= 15 {
		wrote(t, someKey, x)
		return
	}
	unwritten(t, x)
}

// TestTags: 6.1, a tag has 16 bytes, whichever they are (P5): bytes are counted, not letters.
func TestTags(t *testing.T) {
	tags := []string{strings.Repeat("ä", 8), strings.Repeat("ä", 16), strings.Repeat("k", 1<<16+16)}
	for n := range 40 {
		tags = append(tags, drawn(n, n), strings.Repeat("\x00", n), strings.Repeat("\xff", n), strings.Repeat("k", n))
	}
	for n := range 64 {
		tags = append(tags, drawn(n, 16), rising(byte(4*n), 16))
	}
	for n, tag := range tags {
		if tag == "" {
			continue
		}
		for _, x := range []api.Table{told(9, at{n % 24, n % 8, n % 16, tag}), told(9, at{23, 0, 0, tag})} {
			if len(tag) == 16 {
				wrote(t, someKey, x)
			} else {
				unwritten(t, x)
			}
		}
	}
}

// TestUntagged: 6.1, a cell without a tag is zero, or may not be.
func TestUntagged(t *testing.T) {
	for i := range 24 {
		for _, n := range []int{math.MinInt, -1, 1, 7, 8, 15, 16, 255, 256, 1 << 32} {
			unwritten(t, told(9, at{i, n, 0, ""}))
			unwritten(t, told(9, at{i, 0, n, ""}))
			unwritten(t, told(9, at{i, n, n, ""}))
			x := full(9)
			x.Cells[i] = api.Cell{Off: n}
			unwritten(t, x)
		}
		x := full(9)
		x.Cells[i] = api.Cell{}
		wrote(t, someKey, x)
	}
}

// TestSamePlace: 6.1, no two cells with tags are at one place, whichever cells, and whether their tags are alike or not; and no text with its right mark tells so.
func TestSamePlace(t *testing.T) {
	for i := range 24 {
		for j := range i {
			for _, p := range [][2]int{{0, 0}, {0, 15}, {7, 0}, {7, 15}, {3, 4}} {
				for _, tag := range []string{someTag, strings.Repeat("\x00", 16), drawn(i, 16)} {
					x := told(9, at{i, p[0], p[1], tag}, at{j, p[0], p[1], someTag})
					unwritten(t, x)
					spoilt(t, spread(x))
				}
			}
			x := full(9)
			x.Cells[j].Zone, x.Cells[j].Off = x.Cells[i].Zone, x.Cells[i].Off
			unwritten(t, x)
			spoilt(t, spread(x))
		}
	}
}

// TestOtherPlace: 6.1, two cells of one zone alone, or of one block number alone, may be, with one tag or two; and one at the first place beside cells that are zero.
func TestOtherPlace(t *testing.T) {
	for i := range 24 {
		j := (i + 1 + i%22) % 24
		for _, tag := range []string{someTag, drawn(i, 16)} {
			for n := range 15 {
				wrote(t, someKey, told(9, at{i, i % 8, n, tag}, at{j, i % 8, n + 1, someTag}))
				wrote(t, someKey, told(9, at{i, n % 7, i % 16, tag}, at{j, n%7 + 1, i % 16, someTag}))
				wrote(t, someKey, told(9, at{i, n % 7, n%7 + 1, tag}, at{j, n%7 + 1, n % 7, someTag}))
			}
			wrote(t, someKey, told(9, at{i, 0, 0, tag}))
			wrote(t, someKey, told(9, at{i, 0, 0, tag}, at{j, 7, 15, tag}))
		}
	}
	var x api.Table
	for i := range 24 {
		x.Cells[i] = api.Cell{Zone: 5 + i/16, Off: i % 16, Tag: someTag}
	}
	x.Count = 1
	wrote(t, someKey, x)
}

// TestKeySizes: 6.1, ErrArg of every key that has not 32 bytes; bytes are counted, not letters (P5).
func TestKeySizes(t *testing.T) {
	s := wrote(t, someKey, full(9))
	keys := []string{strings.Repeat("ä", 32), strings.Repeat("k", 1<<16+32), someKey + "\x00", someKey[:31]}
	for n := range 300 {
		keys = append(keys, drawn(n, n), strings.Repeat("\x00", n), strings.Repeat("k", n))
	}
	for _, key := range keys {
		if len(key) == 32 {
			wrote(t, key, full(9))
			unparsed(t, key, s, api.ErrSpoilt)
			continue
		}
		refused(t, key, full(9))
		unparsed(t, key, s, api.ErrArg)
		unparsed(t, key, forge(key, spread(full(9))), api.ErrArg)
	}
	wrote(t, strings.Repeat("ä", 16), full(9))
}

// TestFirstError: P3, ErrArg comes ahead of ErrSpoilt, where both apply.
func TestFirstError(t *testing.T) {
	s := wrote(t, someKey, full(9))
	for _, n := range []int{0, 31, 33} {
		key := drawn(n, n)
		for _, text := range []string{"", "short", s[:size-1], s + "x", changed(s, 0, s[0]^1), strings.Repeat("\x00", size), forge(key, spread(told(0)))} {
			unparsed(t, key, text, api.ErrArg)
			unparsed(t, someKey, text, api.ErrSpoilt)
		}
		refused(t, key, told(0))
		refused(t, key, told(1, at{0, 8, 0, someTag}))
	}
}

// TestShort: 6.1, ErrSpoilt of each text that is too short, even if its mark is that of all else that is there.
func TestShort(t *testing.T) {
	for _, x := range []api.Table{told(1), told(1, at{23, 0, 0, strings.Repeat("\x00", 16)}), full(9)} {
		s := wrote(t, someKey, x)
		for n := range size {
			unparsed(t, someKey, s[:n], api.ErrSpoilt)
			unparsed(t, someKey, s[n+1:], api.ErrSpoilt)
			if n >= 16 {
				unparsed(t, someKey, forge(someKey, s[16:n]), api.ErrSpoilt)
			}
		}
	}
}

// TestBehind: 6.1, 0 alone may stand behind a table, none, one or many; no other byte, wherever it is; and what stands ahead of it is seen.
func TestBehind(t *testing.T) {
	for _, x := range []api.Table{told(1), full(9)} {
		s := wrote(t, someKey, x)
		for _, n := range []int{0, 1, 2, 17, 18, api.Slot - size, api.Slot, size, 1 << 16, 1 << 20} {
			parsed(t, someKey, s+strings.Repeat("\x00", n), x)
		}
		zeros := strings.Repeat("\x00", 60)
		for i := range zeros {
			for b := 1; b < 256; b++ {
				unparsed(t, someKey, s+changed(zeros, i, byte(b)), api.ErrSpoilt)
				unparsed(t, someKey, s+changed(zeros, i, byte(b))[:i+1], api.ErrSpoilt)
			}
		}
		unparsed(t, someKey, s+strings.Repeat("\x00", 1<<20)+"x", api.ErrSpoilt)
		for _, behind := range []string{s, "0", " ", "\n", someTag} {
			unparsed(t, someKey, s+behind, api.ErrSpoilt)
			unparsed(t, someKey, behind+s, api.ErrSpoilt)
		}
		unparsed(t, someKey, "\x00"+s, api.ErrSpoilt)
		// A mark that is of what stands behind, too, is not the table's.
		unparsed(t, someKey, forge(someKey, s[16:]+"\x00"), api.ErrSpoilt)
		unparsed(t, someKey, forge(someKey, s[16:]+"\x00")+"\x00", api.ErrSpoilt)
	}
}

// TestChanged: 6.1, ErrSpoilt of a table of which any one byte is another one, whichever it is then.
func TestChanged(t *testing.T) {
	for _, x := range []api.Table{told(1), told(9, at{3, 0, 0, strings.Repeat("\x00", 16)}), full(9)} {
		s := wrote(t, someKey, x)
		for i := range size {
			for by := 1; by < 256; by++ {
				unparsed(t, someKey, changed(s, i, s[i]^byte(by)), api.ErrSpoilt)
			}
		}
	}
}

// TestForeign: 6.1, ErrSpoilt of what was never written, and of parts of two tables.
func TestForeign(t *testing.T) {
	other := full(10)
	other.Cells[23].Tag = someTag
	one, two := wrote(t, someKey, full(9)), wrote(t, someKey, other)
	for _, i := range []int{8, 16, 24, 42, size - 18, size - 16} {
		unparsed(t, someKey, one[:i]+two[i:], api.ErrSpoilt)
		unparsed(t, someKey, two[:i]+one[i:], api.ErrSpoilt)
	}
	for seed := range 100 {
		unparsed(t, someKey, drawn(seed, size+seed%3), api.ErrSpoilt)
	}
	for _, b := range []string{"\x00", "\xff", "a"} {
		unparsed(t, someKey, strings.Repeat(b, size), api.ErrSpoilt)
		unparsed(t, someKey, strings.Repeat(b, api.Slot), api.ErrSpoilt)
	}
}

// TestOtherKey: 6.1, a table is read by its key alone: ErrSpoilt by one of which any bit is another one.
func TestOtherKey(t *testing.T) {
	s := wrote(t, someKey, full(9))
	for bit := range 8 * 32 {
		unparsed(t, changed(someKey, bit/8, someKey[bit/8]^1<<(bit%8)), s, api.ErrSpoilt)
	}
}

// TestOtherMark: 6.1, the mark is of kind t, and of two parts: the key, and all that stands behind the mark.
func TestOtherMark(t *testing.T) {
	rest := spread(full(9))
	for kind := range 256 {
		s := heldMark(byte(kind), someKey, rest) + rest
		if kind == 't' {
			parsed(t, someKey, s, full(9))
			continue
		}
		unparsed(t, someKey, s, api.ErrSpoilt)
	}
	for _, parts := range [][]string{{rest}, {someKey + rest}, {rest, someKey}, {someKey, rest[:8], rest[8:]}, {someKey, rest, ""}, {someKey}, {"", rest}} {
		unparsed(t, someKey, heldMark('t', parts...)+rest, api.ErrSpoilt)
	}
}

// TestForgedZero: 6.1, ErrSpoilt of a cell that is zero behind whose 255 any other byte than 0 stands, even if the mark is right.
func TestForgedZero(t *testing.T) {
	for _, x := range []api.Table{told(9), told(9, at{0, 0, 0, someTag}, at{5, 7, 15, someTag})} {
		rest := spread(x)
		parsed(t, someKey, forge(someKey, rest), x)
		for i, c := range x.Cells {
			if c.Tag != "" {
				continue
			}
			for j := 1; j < 18; j++ {
				for _, b := range []byte{1, 15, 16, 128, 255} {
					spoilt(t, changed(rest, 8+18*i+j, b))
				}
			}
			spoilt(t, rest[:8+18*i]+"\xff\x00"+someTag+rest[8+18*(i+1):])
			spoilt(t, rest[:8+18*i]+"\xff\x0f"+someTag+rest[8+18*(i+1):])
		}
	}
}

// TestForgedPlace: 6.1, of all bytes that may stand as a zone or a block number, those out of bounds are ErrSpoilt, even if the mark is right.
func TestForgedPlace(t *testing.T) {
	for i := range 24 {
		x := told(9, at{i, 0, 0, someTag})
		rest := spread(x)
		for b := range 256 {
			zone, off := changed(rest, 8+18*i, byte(b)), changed(rest, 8+18*i+1, byte(b))
			if b < 8 {
				parsed(t, someKey, forge(someKey, zone), told(9, at{i, b, 0, someTag}))
			} else {
				spoilt(t, zone)
			}
			if b < 16 {
				parsed(t, someKey, forge(someKey, off), told(9, at{i, 0, b, someTag}))
			} else {
				spoilt(t, off)
			}
		}
	}
}

// TestForgedNone: 6.1, a cell of zeros is no zero one: it is at the first place, so that two of them are ErrSpoilt.
func TestForgedNone(t *testing.T) {
	zeros := strings.Repeat("\x00", 18)
	rest := spread(told(9))
	one := told(9, at{23, 0, 0, zeros[:16]})
	parsed(t, someKey, forge(someKey, rest[:8+18*23]+zeros), one)
	spoilt(t, rest[:8+18*22]+zeros+zeros)
	spoilt(t, rest[:8]+strings.Repeat(zeros, 24))
}

// TestDrawn: 6.1, of drawn tables, most of them nearly right, against a second way of asking whether they are.
func TestDrawn(t *testing.T) {
	right := 0
	for seed := range 3000 {
		draw := []byte(drawn(seed, 200))
		next := func(most int) int {
			b := int(draw[0])
			draw = draw[1:]
			return b % most
		}
		x := api.Table{Count: []int{1, 2, 9, 1 << 40, 300, 0, 1<<40 + 1, -1}[next(40)%8]}
		for range next(13) {
			x.Cells[next(24)] = api.Cell{Zone: next(8), Off: next(16), Tag: drawn(next(256), 16)}
		}
		for range next(5) / 4 {
			x.Cells[next(24)] = api.Cell{Zone: next(11) - 1, Off: next(19) - 1, Tag: drawn(next(256), 16*next(2)+next(2)*next(2))}
		}
		if heldRight(x) {
			wrote(t, drawn(seed, 32), x)
			right++
		} else {
			unwritten(t, x)
		}
	}
	if right < 500 || right > 2500 {
		t.Errorf("%d of 3000 are right", right)
	}
}

// TestNoTwoAlike: no two tables are written alike, nor one by two keys, nor are their marks alike.
func TestNoTwoAlike(t *testing.T) {
	zeros := strings.Repeat("\x00", 16)
	tables := []api.Table{told(1), told(2), told(256), told(1 << 40), full(1), full(2)}
	for i := range 24 {
		tables = append(tables, told(1, at{i, 0, 0, zeros}), told(1, at{i, 0, 1, zeros}), told(1, at{i, 1, 0, zeros}), told(1, at{i, 0, 0, someTag}))
	}
	seen := map[string]int{}
	for n, x := range tables {
		for _, key := range []string{someKey, strings.Repeat("\x00", 32)} {
			mark := wrote(t, key, x)[:16]
			if other, ok := seen[mark]; ok {
				t.Errorf("the marks of tables %d and %d are alike", other, n)
			}
			seen[mark] = n
		}
	}
}

// TestSlot: a table fits in a slot, and is read from it as it was.
func TestSlot(t *testing.T) {
	d := zone.New()
	for n := range 4 {
		s := wrote(t, someKey, full(n+1))
		must(t, "Put", d.Put(n%2, s), api.OK)
		got, err := d.Get(n % 2)
		must(t, "Get", err, api.OK)
		parsed(t, someKey, got, full(n+1))
	}
	empty, err := zone.New().Get(0)
	must(t, "Get", err, api.OK)
	unparsed(t, someKey, empty, api.ErrSpoilt)
}

// TestFresh: P4, no tag that is read shares memory with the text that was handed in.
func TestFresh(t *testing.T) {
	s := wrote(t, someKey, full(9))
	x, err := Parse(someKey, s)
	must(t, "Parse", err, api.OK)
	first := uintptr(unsafe.Pointer(unsafe.StringData(s)))
	for i, c := range x.Cells {
		p := uintptr(unsafe.Pointer(unsafe.StringData(c.Tag)))
		if p >= first && p < first+size {
			t.Errorf("the tag of cell %d lies in the text", i)
		}
	}
}

// TestAgain: P4, an answer hangs on its arguments alone, whatever was asked between.
func TestAgain(t *testing.T) {
	type answer struct {
		right      bool
		text       string
		errWrite   api.Errno
		table      api.Table
		errParse   api.Errno
		errChanged api.Errno
	}
	ask := func(i int) answer {
		key := drawn(i, 32-i%9/8)
		x := told(i%7, at{i % 24, i % 9, i % 16, drawn(i, 16)}, at{i * 5 % 24, i % 8, i % 15, someTag})
		s, errWrite := Write(key, x)
		y, errParse := Parse(key, s)
		_, errChanged := Parse(key, s+"x")
		return answer{Right(x), s, api.Tell(errWrite), y, api.Tell(errParse), api.Tell(errChanged)}
	}
	var first []answer
	for i := range 200 {
		first = append(first, ask(i))
	}
	for i := 199; i >= 0; i-- {
		if ask(i) != first[i] {
			t.Errorf("of %d an answer is another one the second time", i)
		}
	}
}
