package entry

import (
	"fmt"
	"math"
	"regexp"
	"slices"
	"strconv"
	"strings"
	"testing"
	"unsafe"

	"saltern/api"
	"saltern/plain"
)

// The heads are given: this does not build with others.
var (
	_ func(string) bool                = Name
	_ func(int) int                    = Need
	_ func([]api.File) bool            = Right
	_ func([]api.File) (string, error) = Print
	_ func(string) ([]api.File, error) = Parse
	_ func([]api.File) []int           = Free
)

// odd are numbers that no cell has, some so far that keeping their last bytes alone would bring them back.
var odd = []int{math.MinInt, math.MinInt + 5, -1 << 32, -256 + 5, -5, -1, 0, 1, 2, 24, 25, 256 + 5, 1<<32 + 5, math.MaxInt}

// file is a file of these cells.
func file(name string, size int, cells ...int) api.File {
	return api.File{Name: name, Size: size, Cells: cells}
}

// span are cells from one to another one.
func span(first, last int) []int {
	var cells []int
	for cell := first; cell <= last; cell++ {
		cells = append(cells, cell)
	}
	return cells
}

// must holds an error to be the one that is asked for, in its plain form.
func must(t *testing.T, what string, of any, err error, want api.Errno) {
	t.Helper()
	if e, place := plain.Place(err); e != want || place != -1 {
		t.Errorf("%s of %.300q: error %v (place %d), not %v", what, fmt.Sprint(of), err, place, want)
	}
}

// same says whether two lists have the same files; an empty list may be nil or not.
func same(a, b []api.File) bool {
	return slices.EqualFunc(a, b, func(f, g api.File) bool {
		return f.Name == g.Name && f.Size == g.Size && slices.Equal(f.Cells, g.Cells)
	})
}

// spare stands behind the length of each list that is handed in.
var spare = file("spare", 9, 23)

// guarded is a copy of files, behind which, and behind whose cells, others stand.
func guarded(l []api.File) []api.File {
	out := make([]api.File, 0, len(l)+2)
	for _, f := range l {
		cells := append(make([]int, 0, len(f.Cells)+2), f.Cells...)
		copy(cells[len(cells):cap(cells)], []int{22, 23})
		out = append(out, api.File{Name: f.Name, Size: f.Size, Cells: cells})
	}
	copy(out[len(out):cap(out)], []api.File{spare, spare})
	return out
}

// kept holds guarded files to be as they were, and what stands behind them (P4).
func kept(t *testing.T, what string, l, was []api.File) {
	t.Helper()
	if !same(l, was) || !same(l[len(l):len(l)+2], []api.File{spare, spare}) {
		t.Errorf("%s of %v: they were changed to %v", what, was, l)
	}
	for _, f := range l {
		if behind := f.Cells[len(f.Cells) : len(f.Cells)+2]; !slices.Equal(behind, []int{22, 23}) {
			t.Errorf("%s of %v: what stands behind the cells of %s was changed to %v", what, was, f.Name, behind)
		}
	}
}

// right holds files to be Right, to be printed so, to be read back, and to leave all other cells free.
func right(t *testing.T, l []api.File, text string) {
	t.Helper()
	list := guarded(l)
	if !Right(list) {
		t.Errorf("%v are not Right", l)
	}
	kept(t, "Right", list, l)
	got, err := Print(list)
	must(t, "Print", l, err, api.OK)
	if got != text {
		t.Errorf("Print of %v: %q, not %q", l, got, text)
	}
	kept(t, "Print", list, l)
	parsed(t, text, l)
	free := Free(list)
	if want := heldFree(l); !slices.Equal(free, want) {
		t.Errorf("Free of %v: %v, not %v", l, free, want)
	}
	kept(t, "Free", list, l)
}

// wrong holds files not to be Right, and not to be printed.
func wrong(t *testing.T, l []api.File) {
	t.Helper()
	list := guarded(l)
	if Right(list) {
		t.Errorf("%v are Right", l)
	}
	kept(t, "Right", list, l)
	got, err := Print(list)
	must(t, "Print", l, err, api.ErrArg)
	if got != "" {
		t.Errorf("Print of %v: %q beside an error", l, got)
	}
	kept(t, "Print", list, l)
	Free(list) // nothing is asked of it, but that it ends
	kept(t, "Free", list, l)
	if text := heldText(l); text != "" {
		formless(t, text)
	}
}

// parsed holds a text to be read as files.
func parsed(t *testing.T, s string, want []api.File) {
	t.Helper()
	got, err := Parse(s)
	must(t, "Parse", s, err, api.OK)
	if !same(got, want) {
		t.Errorf("Parse of %q: %v, not %v", s, got, want)
	}
}

// formless holds a text to be no files'.
func formless(t *testing.T, s string) {
	t.Helper()
	got, err := Parse(s)
	must(t, "Parse", s, err, api.ErrForm)
	if len(got) != 0 {
		t.Errorf("Parse of %.300q: %v beside an error", s, got)
	}
}

// TestExample: the document's example of chapter 9.
func TestExample(t *testing.T) {
	right(t, []api.File{file("a", 81, 5, 3), file("b", 0)}, "a 81 5 3\nb 0\n")
	free := Free([]api.File{file("a", 81, 5, 3), file("b", 0)})
	if want := append([]int{4}, span(6, 23)...); !slices.Equal(free, want) {
		t.Errorf("free are %v, not %v", free, want)
	}
}

// TestNames: 9.1, Name of known texts: none, one letter, one digit, a digit first, MaxName letters and one more, others than small letters and digits.
func TestNames(t *testing.T) {
	for _, s := range []string{"a", "z", "m", "a0", "z9", "a1b2c3d4e5", "abcdefghij", "zzzzzzzzzz", "a000000000", "f"} {
		if !Name(s) {
			t.Errorf("%q is no Name", s)
		}
	}
	for _, s := range []string{"", "0", "5", "9", "1a", "0abcdefghi", "abcdefghijk", "a0123456789", "A", "Z", "aB", "abcdefghiJ", " ", " a", "a ", "a b",
		"a\n", "\na", "a\x00", "\x00", "a-", "-a", "a_b", "a.b", "a/b", "`", "{", "a`", "a{", "a:", "\x7f", "\x80", "\xff", "a\x80", "a\xff", "\xe1", "a\xe1", "é", "aé", "ａ", "a１", "a٣",
		strings.Repeat("a", 11), strings.Repeat("a", 20), strings.Repeat("a", 256+1), strings.Repeat("a", 1<<16+1)} {
		if Name(s) {
			t.Errorf("%.50q is a Name", s)
		}
	}
}

// TestNameBytes: 9.1, each byte at each place of names of each length.
func TestNameBytes(t *testing.T) {
	for length := range 14 {
		for i := range length {
			for b := range 256 {
				s := []byte(strings.Repeat("k", length))
				s[i] = byte(b)
				isLetter, isDigit := strings.IndexByte("abcdefghijklmnopqrstuvwxyz", byte(b)) >= 0, strings.IndexByte("0123456789", byte(b)) >= 0
				want := length <= 10 && (isLetter || isDigit && i > 0)
				if got := Name(string(s)); got != want {
					t.Errorf("Name of %q: %v", s, got)
				}
			}
		}
	}
}

// TestNeed: 9.1, known sizes: below 0, 0, 1, Plain, one more, Plain times Cells, 2^60.
func TestNeed(t *testing.T) {
	for _, c := range []struct{ size, cells int }{
		{-1, 0}, {-80, 0}, {-81, 0}, {-1 << 32, 0}, {math.MinInt, 0}, {math.MinInt + 1, 0},
		{0, 0}, {1, 1}, {2, 1}, {79, 1}, {80, 1}, {81, 2}, {159, 2}, {160, 2}, {161, 3},
		{80 * 21, 21}, {80*21 + 1, 22}, {80*24 - 1, 24}, {80 * 24, 24}, {80*24 + 1, 25},
		{1 << 31, 26843546}, {1 << 32, 53687092}, {1 << 40, 13743895348},
		{1 << 60, 14411518807585588}, {1<<60 - 1, 14411518807585588}, {1<<60 - 16, 14411518807585587}, {1<<60 - 15, 14411518807585588},
		// Beyond what is promised, but no number at which to wrap round.
		{1<<60 + 1, 14411518807585588}, {1 << 62, 57646075230342349}, {math.MaxInt, 115292150460684698},
	} {
		if got := Need(c.size); got != c.cells {
			t.Errorf("Need of %d: %d, not %d", c.size, got, c.cells)
		}
	}
}

// TestNeedAll: 9.1, so many cells have room for all bytes, and one less has not.
func TestNeedAll(t *testing.T) {
	check := func(size int) {
		n := Need(size)
		if n*80 < size || (n-1)*80 >= size {
			t.Errorf("Need of %d: %d", size, n)
		}
	}
	for size := 1; size < 5000; size++ {
		check(size)
		check(1<<60 - size + 1)
		check(1<<31 + size - 2500)
	}
}

// TestNoFile: 9.1, no file at all is Right, printed as no text, and leaves all cells of files free.
func TestNoFile(t *testing.T) {
	right(t, nil, "")
	right(t, []api.File{}, "")
	for _, none := range [][]api.File{nil, {}} {
		if !Right(none) || !slices.Equal(Free(none), span(3, 23)) {
			t.Errorf("no file: %v, free are %v", Right(none), Free(none))
		}
	}
}

// TestHowMany: 9.1, MaxFiles may be, one more may not.
func TestHowMany(t *testing.T) {
	for n := range 40 {
		var empty, small []api.File
		texts := [2]string{}
		for i := range n {
			name := string(rune('a'+i/26)) + string(rune('a'+i%26))
			empty = append(empty, file(name, 0))
			small = append(small, file(name, 80, 3+i))
			texts[0] += name + " 0\n"
			texts[1] += fmt.Sprintf("%s 80 %d\n", name, 3+i)
		}
		if n <= 8 {
			right(t, empty, texts[0])
			right(t, small, texts[1])
		} else {
			wrong(t, empty)
			wrong(t, small)
			formless(t, texts[0])
			formless(t, texts[1])
		}
	}
}

// TestOrder: 9.1, names rise, byte by byte; none are the same, none fall; one may be another's beginning.
func TestOrder(t *testing.T) {
	rising := []string{"a", "a0", "a00", "a1", "a10", "a2", "a9", "aa", "aa0", "ab", "az", "b", "b0", "ba", "x10", "x9", "xyz", "z", "z9", "zz", "zzzzzzzzz", "zzzzzzzzzz"}
	for i, a := range rising {
		for j, b := range rising {
			l := []api.File{file(a, 1, 3), file(b, 1, 4)}
			if i < j {
				right(t, l, a+" 1 3\n"+b+" 1 4\n")
			} else {
				wrong(t, l)
				formless(t, a+" 1 3\n"+b+" 1 4\n")
			}
		}
	}
	names := []string{"a", "b", "c", "d", "e", "f", "g", "h"}
	for i := range names {
		for j := range i {
			swapped := slices.Clone(names)
			swapped[i], swapped[j] = swapped[j], swapped[i]
			double := slices.Clone(names)
			double[i] = double[j]
			for _, list := range [][]string{swapped, double} {
				var l []api.File
				for _, name := range list {
					l = append(l, file(name, 0))
				}
				wrong(t, l)
				formless(t, strings.Join(list, " 0\n")+" 0\n")
			}
		}
	}
}

// TestNamesOfFiles: 9.1, a file is called by a Name, wherever it stands.
func TestNamesOfFiles(t *testing.T) {
	for _, name := range []string{"", "1", "A", "bB", " ", "b b", "b\n", "bbbbbbbbbbb", "b\x80", "é", "~", "b 1", "b-"} {
		for i := range 3 {
			l := []api.File{file("a", 0), file("b", 0), file("c", 0)}
			l[i].Name = name
			wrong(t, l)
			wrong(t, l[i:i+1])
		}
	}
}

// TestSizes: 9.1, each Size from below 0 to more than Plain times Cells, with just as many cells as it needs, one less and one more.
func TestSizes(t *testing.T) {
	for size := -200; size < 2200; size++ {
		need := heldNeed(size)
		for cells := max(0, need-1); cells <= need+1; cells++ {
			f := file("a", size, span(3, 2+cells)...)
			if size >= 0 && cells == need && cells <= 21 {
				right(t, []api.File{f}, heldText([]api.File{f}))
			} else {
				wrong(t, []api.File{f})
			}
		}
	}
	right(t, []api.File{file("a", 80*21, span(3, 23)...)}, "a 1680 3 4 5 6 7 8 9 10 11 12 13 14 15 16 17 18 19 20 21 22 23\n")
	for _, size := range []int{math.MinInt, -1 << 32, -81, -80, -1, 80*21 + 1, 80 * 24, 80*24 + 1, 1 << 32, 1 << 60, math.MaxInt} {
		for _, cells := range [][]int{nil, {3}, span(3, 23), span(0, 23), span(3, 26), span(3, 27), span(0, 24)} {
			wrong(t, []api.File{file("a", size, cells...)})
			wrong(t, []api.File{file("a", 0), file("b", size, cells...)})
		}
	}
	// The greatest Size takes more cells than files may have, so that it is never Right.
	wrong(t, []api.File{file("a", 80*24, span(0, 23)...)})
	wrong(t, []api.File{file("a", 80*24, slices.Repeat([]int{3}, 24)...)})
}

// TestCells: 9.1, a cell below DirCells, DirCells, Cells - 1, Cells, and others that are none, at each place.
func TestCells(t *testing.T) {
	for cell := 3; cell < 24; cell++ {
		right(t, []api.File{file("a", 7, cell)}, fmt.Sprintf("a 7 %d\n", cell))
	}
	for _, cell := range odd {
		wrong(t, []api.File{file("a", 7, cell)})
		for i := range 4 {
			cells := []int{3, 23, 9, 4}
			right(t, []api.File{file("a", 300, cells...), file("b", 1, 10)}, "a 300 3 23 9 4\nb 1 10\n")
			cells[i] = cell
			wrong(t, []api.File{file("a", 300, cells...), file("b", 1, 10)})
			wrong(t, []api.File{file("Z", 1, 10), file("b", 300, cells...)})
			wrong(t, []api.File{file("a", 1, 10), file("b", 300, cells...)})
		}
	}
}

// TestTwice: 9.1, no cell twice, neither in one file nor in two, wherever these stand.
func TestTwice(t *testing.T) {
	for cell := 3; cell < 24; cell++ {
		wrong(t, []api.File{file("a", 160, cell, cell)})
		wrong(t, []api.File{file("a", 80, cell), file("b", 80, cell)})
	}
	cells := []int{23, 3, 11, 7, 4, 15, 16, 5}
	for i := range cells {
		for j := range i {
			again := slices.Clone(cells)
			again[i] = again[j]
			wrong(t, []api.File{file("a", 640, again...)})
			var each []api.File
			for k, cell := range again {
				each = append(each, file(string(rune('a'+k)), 80, cell))
			}
			wrong(t, each)
			for _, at := range []int{1, 3, 5, 7} {
				wrong(t, []api.File{file("a", 80*at, again[:at]...), file("b", 0), file("c", 80*(8-at), again[at:]...)})
			}
		}
	}
	// A cell that only stands behind a list's length is not in it.
	right(t, []api.File{file("a", 80, 22), file("b", 80, 23)}, "a 80 22\nb 80 23\n")
}

// TestPrint: 9.1, P5, known files: without cells, with some, with all; sizes of each length; cells in their own order.
func TestPrint(t *testing.T) {
	right(t, []api.File{file("a", 0)}, "a 0\n")
	right(t, []api.File{file("a", 0), file("b", 0), file("c", 0)}, "a 0\nb 0\nc 0\n")
	right(t, []api.File{file("a", 1, 3)}, "a 1 3\n")
	right(t, []api.File{file("a", 10, 10)}, "a 10 10\n")
	right(t, []api.File{file("a0", 100, 20, 10)}, "a0 100 20 10\n")
	right(t, []api.File{file("a", 1000, 23, 22, 21, 20, 19, 18, 17, 16, 15, 14, 13, 12, 11)}, "a 1000 23 22 21 20 19 18 17 16 15 14 13 12 11\n")
	right(t, []api.File{file("a", 0), file("abcdefghij", 161, 3, 23, 12), file("b", 80, 4), file("c9", 0)}, "a 0\nabcdefghij 161 3 23 12\nb 80 4\nc9 0\n")
	right(t, []api.File{file("a", 200, 5, 4, 3), file("b", 200, 3+3, 4+3, 5+3)}, "a 200 5 4 3\nb 200 6 7 8\n")
}

// TestGreatest: 9.1, files that take all cells, with the longest names: their text fits in the directory's cells.
func TestGreatest(t *testing.T) {
	var l []api.File
	for i := range 7 {
		l = append(l, file("abcdefghi"+string(rune('a'+i)), 160, 3+2*i, 4+2*i))
	}
	l = append(l, file("abcdefghih", 560, span(17, 23)...))
	text := heldText(l)
	right(t, l, text)
	if len(text) != 176 || len(text) > api.DirCells*api.Plain {
		t.Errorf("%d bytes: %q", len(text), text)
	}
	if free := Free(l); len(free) != 0 {
		t.Errorf("free are %v", free)
	}
}

// TestNotRight: 9.1, P2, of each kind of list that is not Right, Print tells ErrArg and nothing else.
func TestNotRight(t *testing.T) {
	for _, l := range [][]api.File{
		{file("", 0)}, {file("A", 0)}, {file("a", -1)}, {file("a", 0, 3)}, {file("a", 1)}, {file("a", 81, 3)}, {file("a", 80, 3, 4)}, {file("a", 1, 2)}, {file("a", 1, 24)},
		{file("a", 0), file("a", 0)}, {file("b", 0), file("a", 0)}, {file("a", 1, 3), file("b", 1, 3)}, {file("a", 81, 3, 3)}, {file("a", 1921, span(3, 27)...)}, {{}}, {{}, {}}, {file("a", 0), {}},
		make([]api.File, 8), make([]api.File, 9), make([]api.File, 1000),
	} {
		wrong(t, l)
	}
}

// TestForms: 9.1, ErrForm of known texts as which no files are printed.
func TestForms(t *testing.T) {
	for _, s := range []string{
		// Line feeds: without the last one, with one too many, with an empty line, with others in their place.
		"a 0", "a 81 5 3", "a 81 5 3\nb 0", "\n", "\n\n", "\na 0\n", "a 0\n\n", "a 0\n\nb 0\n", "a 0\r\n", "a 0\r", "a 0\x00", "a 0\n\x00", "a 0 b 0\n", "a 0\v", "a 0\u0085", "a 0\u2028",
		// Blanks: too many, too few, others in their place.
		" ", " \n", " a 0\n", "a  0\n", "a 0 \n", "a 81 5 3 \n", "a 81  5 3\n", "a 81 5  3\n", "a 0\n b 0\n", "a 0\nb 0\n ", "a0\n", "a 815 3\n", "a\t0\n", "a 81 5\t3\n", "a\u00a00\n", "a\n0\n", "a 81 5\n3\n", "a 81\n5 3\n", "\ta 0\n", "a 0\t\n",
		// Numbers: a 0 or a sign ahead, too great, none.
		"a 00\n", "a 01 3\n", "a 081 5 3\n", "a 81 05 3\n", "a 81 5 03\n", "a +0\n", "a -0\n", "a +81 5 3\n", "a 81 +5 3\n", "a 81 5 +3\n", "a -1\n", "a -1 3\n", "a 81 -5 3\n", "a 81 5 -3\n", "a 81 5 -0\n",
		"a 1681 3 4 5 6 7 8 9 10 11 12 13 14 15 16 17 18 19 20 21 22 23\n", "a 1921\n", "a 2147483648\n", "a 4294967296\n", "a 9223372036854775807\n", "a 9223372036854775808\n", "a -9223372036854775809\n", "a 18446744073709551616\n", "a 18446744073709551697 5 3\n", "a 81 18446744073709551621 3\n", "a 81 4294967301 3\n", "a 340282366920938463463374607431768211456\n",
		"a\n", "a \n", "a x\n", "a 0x0\n", "a 0x51 5 3\n", "a 8_1 5 3\n", "a 81. 5 3\n", "a 8e1 3\n", "a 80.0 3\n", "a 81 5 c\n", "a 81 ٥ 3\n", "a 81 5 3x\n", "a 81 5, 3\n", "a 81,5,3\n", "a 0\x00\n",
		// Names that are none, or are not there.
		"0\n", "81 5 3\n", "A 0\n", "1a 0\n", "0 0\n", " 0\n", "abcdefghijk 0\n", "a- 0\n", "é 0\n", "\xff 0\n", "a\x00 0\n", "a.b 0\n",
		// Lines in another order, or twice.
		"b 0\na 0\n", "b 0\na 81 5 3\n", "a 0\na 0\n", "aa 0\na 0\n", "a1 0\na 0\n", "x9 0\nx10 0\n",
		// What no files have that are Right.
		"a 0 3\n", "a 1\n", "a 80 3 4\n", "a 81 3\n", "a 81 3 3\n", "a 1 2\n", "a 1 0\n", "a 1 24\n", "a 81 3 24\n", "a 81 23 2\n", "a 1 3\nb 1 3\n", "a 0\nb 0\nc 0\nd 0\ne 0\nf 0\ng 0\nh 0\ni 0\n",
		// No list's.
		"a", "abc", "hello, world\n", "\x00", "\xff", "[]", "{a 0 []}\n", "a:0\n", "0 a\n", "a 0 3 5 b\n",
	} {
		formless(t, s)
		if s[len(s)-1] == '\n' {
			formless(t, s+"zz 0\n")
			formless(t, "a 0\n"+s)
		}
	}
	formless(t, "a 81 5 3\nb 0\nb 0\n")
	parsed(t, "a 81 5 3\nb 0\n", []api.File{file("a", 81, 5, 3), file("b", 0)})
}

// TestLong: 9.1, P1, texts that are far too long are no files', and are done with.
func TestLong(t *testing.T) {
	const most = 1 << 22
	for _, part := range []string{" ", "\n", "a", "0", "1", "-", "+", "a 0\n", "a ", "3 ", " 3", "\x00", "\xff"} {
		text := strings.Repeat(part, most/len(part))
		for _, ahead := range []string{"", "a", "a ", "a 0", "a 1 ", "a 81 5 3", "a 81 5 3\n", "a 0\nb "} {
			formless(t, ahead+text)
			formless(t, ahead+text+"\n")
			formless(t, text+ahead)
		}
	}
	if Name(strings.Repeat("a", most)) {
		t.Errorf("so long a text is a Name")
	}
	wrong(t, []api.File{file("a", 81, make([]int, 1<<16)...)})
	wrong(t, []api.File{file("a", 80<<16, make([]int, 1<<16)...)})
	wrong(t, []api.File{file("a", 80<<16, span(3, 2+1<<16)...)})
}

// TestFree: 9.1, known lists: some cells taken, all but one, all; whatever order they stand in.
func TestFree(t *testing.T) {
	for _, c := range []struct {
		l    []api.File
		want []int
	}{
		{[]api.File{file("a", 0)}, span(3, 23)},
		{[]api.File{file("a", 1, 3)}, span(4, 23)},
		{[]api.File{file("a", 1, 23)}, span(3, 22)},
		{[]api.File{file("a", 81, 23, 3)}, span(4, 22)},
		{[]api.File{file("a", 81, 9, 7), file("b", 1, 8)}, append(span(3, 6), span(10, 23)...)},
		{[]api.File{file("a", 1600, span(4, 23)...)}, []int{3}},
		{[]api.File{file("a", 1600, span(3, 22)...)}, []int{23}},
		{[]api.File{file("a", 800, span(3, 12)...), file("b", 800, span(14, 23)...)}, []int{13}},
		{[]api.File{file("a", 1680, span(3, 23)...)}, nil},
		{[]api.File{file("a", 800, span(14, 23)...), file("b", 880, span(3, 13)...), file("c", 0)}, nil},
	} {
		if got := Free(c.l); !slices.Equal(got, c.want) {
			t.Errorf("Free of %v: %v, not %v", c.l, got, c.want)
		}
		right(t, c.l, heldText(c.l))
	}
}

// TestFreeEach: 9.1, what is free may be taken by a file of just so many cells, and nothing else is free then.
func TestFreeEach(t *testing.T) {
	d := die(5)
	for range 500 {
		l := d.files()
		free := Free(l)
		if len(l) == 8 {
			l = l[:7]
			free = Free(l)
		}
		l = append(l, file("zz", 80*len(free), free...))
		right(t, l, heldText(l))
		if left := Free(l); len(left) != 0 {
			t.Errorf("Free of %v: %v", l, left)
		}
	}
}

// TestFreeOfAny: P1, Free of what is not Right ends, and tells no cell that is not a file's.
func TestFreeOfAny(t *testing.T) {
	for _, l := range [][]api.File{{{}}, make([]api.File, 1000), {file("a", 0, odd...)}, {file("a", 0, odd...), file("a", 0, append(slices.Clone(odd), 3, 3)...)}} {
		list := guarded(l)
		got := Free(list)
		kept(t, "Free", list, l)
		if !slices.IsSorted(got) || slices.ContainsFunc(got, func(cell int) bool { return cell < 3 || cell > 23 }) {
			t.Errorf("Free of %v: %v", l, got)
		}
	}
}

// heldNeed counts cells until all bytes have room.
func heldNeed(size int) int {
	n := 0
	for left := size; left > 0; left -= 80 {
		n++
	}
	return n
}

// heldFree takes cells out of all of them.
func heldFree(l []api.File) []int {
	free := span(3, 23)
	for _, f := range l {
		free = slices.DeleteFunc(free, func(cell int) bool { return slices.Contains(f.Cells, cell) })
	}
	return free
}

// heldText is files as text, whether they are Right or not.
func heldText(l []api.File) string {
	text := ""
	for _, f := range l {
		text += fmt.Sprint(f.Name, " ", f.Size)
		if len(f.Cells) > 100 {
			return ""
		}
		for _, cell := range f.Cells {
			text += fmt.Sprint(" ", cell)
		}
		text += fmt.Sprintln()
	}
	return text
}

// heldName is the form of a name.
var heldName = regexp.MustCompile(`\A[a-z][a-z0-9]{0,9}\z`)

// heldRight asks everything of each pair of files, and of cells.
func heldRight(l []api.File) bool {
	all := map[int]int{}
	for i, f := range l {
		if !heldName.MatchString(f.Name) {
			return false
		}
		for _, g := range l[:i] {
			if strings.Compare(g.Name, f.Name) >= 0 {
				return false
			}
		}
		if f.Size < 0 || f.Size > 1920 || len(f.Cells) != heldNeed(f.Size) {
			return false
		}
		for _, cell := range f.Cells {
			if all[cell]++; cell < 3 || cell > 23 || all[cell] > 1 {
				return false
			}
		}
	}
	return len(l) < 9
}

// die is numbers that look drawn, the same each time.
type die uint32

func (d *die) n(most int) int {
	*d = *d*1664525 + 1013904223
	return int(uint32(*d)>>8) % most
}

// files are drawn ones that are Right.
func (d *die) files() []api.File {
	cells := span(3, 23)
	for i := range cells {
		j := i + d.n(len(cells)-i)
		cells[i], cells[j] = cells[j], cells[i]
	}
	names := []string{"a", "a0", "a1", "aa", "b", "b9", "c", "d123456789", "e", "f", "g7x", "z"}
	var l []api.File
	for _, name := range names {
		if d.n(2) == 0 || len(l) == 8 {
			continue
		}
		n := min(d.n(6), len(cells))
		f := file(name, max(0, 80*n-d.n(80)), cells[:n]...)
		l, cells = append(l, f), cells[n:]
	}
	return l
}

// spoil changes something of files; they may still be Right.
func (d *die) spoil(l []api.File) []api.File {
	l = guarded(l)
	if len(l) == 0 {
		return append(l, file("a", d.n(3), 3))
	}
	f := &l[d.n(len(l))]
	switch d.n(7) {
	case 0:
		f.Name = []string{"", "A", "1", "a", "zz", "abcdefghijk", "b b", "d"}[d.n(8)]
	case 1:
		f.Size += d.n(200) - 100
	case 2:
		f.Cells = append(f.Cells, d.n(28)-2)
	case 3:
		if len(f.Cells) > 0 {
			f.Cells[d.n(len(f.Cells))] = d.n(28) - 2
		}
	case 4:
		f.Cells = f.Cells[:max(0, len(f.Cells)-1)]
	case 5:
		j := d.n(len(l))
		*f, l[j] = l[j], *f
	case 6:
		l = append(l, file("zz", 0))
	}
	return l
}

// TestDrawn: 9.1, drawn files, right ones and such of which something was changed, against second ways of asking.
func TestDrawn(t *testing.T) {
	d := die(1)
	rights := 0
	for range 20000 {
		l := d.files()
		right(t, l, heldText(l))
		if l = d.spoil(l); heldRight(l) {
			rights++
			right(t, l, heldText(l))
		} else {
			wrong(t, l)
		}
	}
	if rights < 1000 || rights > 10000 {
		t.Errorf("%d of 20000 are right", rights)
	}
}

// heldParse reads a text letter by letter; false: no files are printed so.
func heldParse(s string) ([]api.File, bool) {
	var l []api.File
	for len(s) > 0 {
		end := strings.IndexByte(s, '\n')
		if end < 0 {
			return nil, false
		}
		var words []string
		word := ""
		for _, b := range []byte(s[:end]) {
			if b == ' ' {
				words, word = append(words, word), ""
			} else {
				word += string([]byte{b})
			}
		}
		words = append(words, word)
		s = s[end+1:]
		f := api.File{Name: words[0]}
		for i, word := range words[1:] {
			n, err := strconv.ParseUint(word, 10, 16)
			if err != nil || len(word) > 1 && word[0] == '0' || word[0] == '+' {
				return nil, false
			}
			if i == 0 {
				f.Size = int(n)
			} else {
				f.Cells = append(f.Cells, int(n))
			}
		}
		if len(words) < 2 {
			return nil, false
		}
		l = append(l, f)
	}
	return l, heldRight(l)
}

// TestDrawnTexts: 9.1, texts of drawn files of which bytes were changed, taken out and put in, against a second way of reading.
func TestDrawnTexts(t *testing.T) {
	d := die(2)
	read := 0
	for range 60000 {
		s := heldText(d.files())
		for range 1 + d.n(2) {
			i := d.n(len(s) + 1)
			b := string(" \n\n00123456789+-abzA\x00\xff"[d.n(22)])
			switch d.n(3) {
			case 0:
				s = s[:i] + b + s[min(i+1, len(s)):]
			case 1:
				s = s[:i] + b + s[i:]
			case 2:
				s = s[:i] + s[min(i+1+d.n(3), len(s)):]
			}
		}
		if l, ok := heldParse(s); ok {
			read++
			parsed(t, s, l)
		} else {
			formless(t, s)
		}
	}
	if read < 3000 || read > 30000 {
		t.Errorf("%d of 60000 are files'", read)
	}
}

// TestEveryByte: 9.1, each byte in the place of each one of a text, ahead of it and without it: what is read is printed just so.
func TestEveryByte(t *testing.T) {
	s := "a 81 5 13\nab 0\nb2 160 3 20\n"
	for i := range len(s) {
		texts := []string{s[:i] + s[i+1:], s[:i], s[i:]}
		for b := range 256 {
			texts = append(texts, s[:i]+string([]byte{byte(b)})+s[i+1:], s[:i]+string([]byte{byte(b)})+s[i:])
		}
		for _, text := range texts {
			if l, ok := heldParse(text); ok {
				right(t, l, text)
			} else {
				formless(t, text)
			}
		}
	}
}

// TestFresh: P4, an answer is the caller's: what is done to it is not seen in another one, nor do two lists of one answer share memory.
func TestFresh(t *testing.T) {
	s := "a 161 5 3 4\nb 161 6 7 8\nc 0\nd 0\n"
	want := []api.File{file("a", 161, 5, 3, 4), file("b", 161, 6, 7, 8), file("c", 0), file("d", 0)}
	l, err := Parse(s)
	must(t, "Parse", s, err, api.OK)
	for i := range l {
		all := l[i].Cells[:cap(l[i].Cells)]
		for j := range all {
			all[j] = -9
		}
		for j := i + 1; j < len(l); j++ {
			if !slices.Equal(l[j].Cells, want[j].Cells) {
				t.Errorf("the cells of %s and %s are one list", l[i].Name, l[j].Name)
			}
		}
		_ = append(l[i].Cells, -9, -9)
		first, name := uintptr(unsafe.Pointer(unsafe.StringData(s))), uintptr(unsafe.Pointer(unsafe.StringData(l[i].Name)))
		if name >= first && name < first+uintptr(len(s)) {
			t.Errorf("the name %s lies in the text", l[i].Name)
		}
	}
	for i := range l {
		l[i] = api.File{}
	}
	parsed(t, s, want)
	free := Free(want)
	for i := range free {
		free[i] = -9
	}
	right(t, want, s)
}

// TestAgain: P4, an answer hangs on its arguments alone, whatever was asked between.
func TestAgain(t *testing.T) {
	ask := func(i int) string {
		d := die(i)
		l := d.files()
		if i%2 == 0 {
			l = d.spoil(l)
		}
		s, errPrint := Print(l)
		m, errParse := Parse(s + "zz 0\n"[:5*(i%3/2)])
		return fmt.Sprint(Right(l), s, errPrint, m, errParse, Free(l), Need(i), Name(s))
	}
	var first []string
	for i := range 500 {
		first = append(first, ask(i))
	}
	for i := 499; i >= 0; i-- {
		if ask(i) != first[i] {
			t.Errorf("of %d an answer is another one the second time", i)
		}
	}
}
