package desk

import (
	"crypto/sha256"
	"encoding/hex"
	"fmt"
	"reflect"
	"slices"
	"strconv"
	"strings"
	"testing"

	"saltern/api"
	"saltern/files"
)

// The head is given: this does not build with another one.
var _ func(string) string = Session

// helpText is what help tells, as the document writes it.
const helpText = "block count crash del flush free fuse get help image lay list new open put reclaim spoil sum"

// talk holds a session's lines to their answers: line, answer, line, answer ..
func talk(t *testing.T, l ...string) {
	t.Helper()
	var lines, want []string
	for i := 0; i < len(l); i += 2 {
		lines, want = append(lines, l[i]), append(want, l[i+1])
	}
	got := answers(t, lines...)
	for i := range want {
		if got[i] != want[i] {
			t.Fatalf("line %d, %.60q, behind %.600q: %.200q, not %.200q", i, lines[i], lines[:i], got[i], want[i])
		}
	}
}

// answers are a session's answers, one a line.
func answers(t *testing.T, lines ...string) []string {
	t.Helper()
	told := Session(strings.Join(lines, "\n") + "\n")
	if !strings.HasSuffix(told, "\n") || strings.Count(told, "\n") != len(lines) {
		t.Fatalf("%.300q: %d line feeds for %d lines: %.300q", lines, strings.Count(told, "\n"), len(lines), told)
	}
	return strings.Split(strings.TrimSuffix(told, "\n"), "\n")
}

// all are lines that are answered by their first words alone, as talk takes them.
func all(lines ...string) (out []string) {
	for _, line := range lines {
		out = append(out, line, strings.Fields(line)[0])
	}
	return out
}

// begun is a session at its beginning, and what answers its lines: for what no answer shows.
func begun() (*session, func(line string) string) {
	s := started()
	return s, func(line string) string { return answer(s.commands(), line) }
}

// got is what get tells of a text.
func got(text string) string {
	h := sha256.Sum256([]byte(text))
	return fmt.Sprint("get ", len(text), " ", hex.EncodeToString(h[:4]))
}

// summed is what sum tells of a text.
func summed(text string) string {
	h := sha256.Sum256([]byte(text))
	return "sum " + hex.EncodeToString(h[:])
}

// lost are lines behind which there are no files: the device is laid down as it was ahead of what was told.
var lost = []string{"put a 1 x", "put", "flush", "flush 1", "lay", "lay"}

// TestLimit: a text of more than MaxText bytes is answered by one error, whatever it says, and also if its last byte would be left out.
func TestLimit(t *testing.T) {
	for text, want := range map[string]string{
		strings.Repeat("x", 20000):                        "error 3\n",
		strings.Repeat("x", 20001):                        "error 4\n",
		strings.Repeat("x", 19999) + "\n":                 "error 3\n",
		strings.Repeat("x", 20000) + "\n":                 "error 4\n",
		strings.Repeat("\n", 20000):                       strings.Repeat("ok\n", 20000),
		strings.Repeat("\n", 20001):                       "error 4\n",
		strings.Repeat(" ", 20000):                        "ok\n",
		strings.Repeat(" ", 20001):                        "error 4\n",
		strings.Repeat("é", 10000):                        "error 3\n",
		strings.Repeat("é", 10000) + "é":                  "error 4\n",
		"help\n" + strings.Repeat("x", 19995):             helpText + "\nerror 3\n",
		"help\n" + strings.Repeat("x", 19996):             "error 4\n",
		"sum " + strings.Repeat("y", 19996):               summed(strings.Repeat("y", 19996)) + "\n",
		"new " + strings.Repeat("y", 19989) + "\ncount":   "new\ncount 0\n",
		"count\nnew " + strings.Repeat("y", 19990):        "count 0\nnew\n",
		"crash 0 " + strings.Repeat("1", 19986) + "\nlay": "crash 0\nlay\n",
	} {
		if told := Session(text); told != want {
			t.Errorf("%d bytes, %.20q: %.60q, not %.60q", len(text), text, told, want)
		}
	}
}

// TestLines: cut at line feeds; one at the end is left out.
func TestLines(t *testing.T) {
	for text, want := range map[string]string{
		"":                    "ok\n",
		"\n":                  "ok\n",
		"\n\n":                "ok\nok\n",
		"\n\n\n":              "ok\nok\nok\n",
		" ":                   "ok\n",
		" \n ":                "ok\nok\n",
		"count":               "count 0\n",
		"count\n":             "count 0\n",
		"count\n\n":           "count 0\nok\n",
		"\ncount":             "ok\ncount 0\n",
		"\n\ncount\n":         "ok\nok\ncount 0\n",
		"count\nfree":         "count 0\nfree 128\n",
		"count\n\nfree\n":     "count 0\nok\nfree 128\n",
		"count\n  \nfree\n\n": "count 0\nok\nfree 128\nok\n",
		"count\r\nfree\r\n":   "error 3\nerror 3\n",
		"count\rfree":         "error 3\n",
		"count\x00":           "error 3\n",
		"count\u2028free":     "error 3\n",
	} {
		if told := Session(text); told != want {
			t.Errorf("%q: %q, not %q", text, told, want)
		}
	}
}

// TestBlanks: words have blanks between, as many as one likes, and at both ends; nothing else stands between words.
func TestBlanks(t *testing.T) {
	talk(t,
		"    ", "ok",
		"  count", "count 0",
		"count   ", "count 0",
		"   put    a   2     x  ", "put",
		" get  a ", got("xx"),
		"  sum   a    b  ", summed("a b"),
		"sum a b", summed("a b"),
	)
	for _, no := range []string{"\t", "\v", "\f", "\r", "\x00", "\x1f", "\u00a0", "\u0085", "\u2003", "\u3000", "\xff", "\xa0", "_", ","} {
		talk(t,
			no, "error 3",
			no+no, "error 3",
			no+"count", "error 3",
			"count"+no, "error 3",
			"count "+no, "error 3",
			"fuse"+no+"1", "error 3",
			"sum a"+no+"b", summed("a"+no+"b"),
			"sum "+no, summed(no),
			"sum "+no+"  "+no, summed(no+" "+no),
			"put a 2 "+no, "put",
			"get a", got(no+no),
		)
	}
}

// TestBytes: words are bytes, whatever they are.
func TestBytes(t *testing.T) {
	for b := range 256 {
		word := string([]byte{byte(b)})
		if b == ' ' || b == '\n' {
			continue
		}
		talk(t,
			"sum "+word+" "+word+word, summed(word+" "+word+word),
			"put a 3 "+word, "put",
			"get a", got(word+word+word),
		)
	}
}

// forms are the first words, and lines of each that have the form that the document tells.
var forms = map[string]struct {
	words int
	right []string
}{
	"new":     {1, []string{"new x", "new new", "new 1"}},
	"put":     {3, []string{"put a 1 x", "put A 1 x", "put 1 1 1", "put a -1 x", "put a 1001 x"}},
	"del":     {1, []string{"del a", "del 1"}},
	"get":     {1, []string{"get a", "get -"}},
	"list":    {0, []string{"list"}},
	"flush":   {0, []string{"flush"}},
	"reclaim": {0, []string{"reclaim"}},
	"count":   {0, []string{"count"}},
	"free":    {0, []string{"free"}},
	"open":    {0, []string{"open"}},
	"fuse":    {1, []string{"fuse 1", "fuse -1", "fuse 0"}},
	"crash":   {2, []string{"crash 0 0", "crash -1 x", "crash 7 1x10"}},
	"image":   {0, []string{"image"}},
	"lay":     {0, []string{"lay"}},
	"spoil":   {3, []string{"spoil 0 0 0", "spoil -1 -1 -1", "spoil 9 9 9"}},
	"block":   {2, []string{"block a 1", "block 1 -1"}},
	"sum":     {-1, []string{"sum", "sum a", "sum a b c d e f g h i j k"}},
	"help":    {0, []string{"help"}},
}

// TestForm: just so many words stand behind the first one as are told.
func TestForm(t *testing.T) {
	for first, form := range forms {
		for _, line := range form.right {
			if told := answers(t, line)[0]; told == "error 3" {
				t.Errorf("%q: %q", line, told)
			}
		}
		for n := range 8 {
			// Numbers are words, too, so that only how many there are is wrong.
			line := first + strings.Repeat(" 1", n)
			if told := answers(t, line)[0]; (told == "error 3") != (n != form.words && form.words >= 0) {
				t.Errorf("%q: %q", line, told)
			}
		}
	}
}

// TestFirst: any other first word is none.
func TestFirst(t *testing.T) {
	for first := range forms {
		for _, no := range []string{strings.ToUpper(first), strings.ToUpper(first[:1]) + first[1:], first + "s", first[1:], first[:len(first)-1], first + ".", "." + first, first + first, first + "\x00"} {
			for n := range 4 {
				line := no + strings.Repeat(" 1", n)
				talk(t, line, "error 3")
			}
		}
	}
	talk(t, "x", "error 3", "ok", "error 3", "error", "error 3", "error 3", "error 3", "..", "error 3", "T", "error 3", "N", "error 3", "1", "error 3", "-", "error 3", "stat", "error 3", "quit", "error 3", "?", "error 3")
}

// noNumbers are words that are no numbers; numbers such as are, with others.
var (
	noNumbers = []string{"x", "-", "--1", "+1", "+0", "-0", "00", "01", "-01", "-00", "007", "1x", "x1", "1.0", "1e3", "0x1", "0b1", "0o7", "1_0", "1,0", "1-", "1-1", "\t1", "1\t", "1\r", "1\x00", "\xff", "٣", "１", "−1", "9223372036854775808", "-9223372036854775809", "18446744073709551616", "18446744073709551617", "-18446744073709551615", "1" + strings.Repeat("0", 1000), strings.Repeat("9", 3000), "true", "nil", "inf", "NaN"}
	numbers   = []string{"0", "1", "-1", "9", "10", "-10", "100", "1001", "4294967295", "4294967296", "-4294967296", "9223372036854775807", "-9223372036854775808"}
)

// TestNumbers: a number is decimal, perhaps with -, no nought ahead, of 64 bits; else ErrForm, ahead of all others.
func TestNumbers(t *testing.T) {
	for _, form := range []string{"put a N x", "put A N x", "fuse N", "crash N 1", "block a N", "spoil N 0 0", "spoil 0 N 0", "spoil 0 0 N", "spoil 99 N 0", "spoil -1 -1 N", "spoil N N N"} {
		for _, no := range noNumbers {
			talk(t, strings.ReplaceAll(form, "N", no), "error 3")
			talk(t, append(slices.Clone(lost), strings.ReplaceAll(form, "N", no), "error 3")...)
		}
		for _, n := range numbers {
			line := strings.ReplaceAll(form, "N", n)
			if told := answers(t, line)[0]; told == "error 3" {
				t.Errorf("%q: %q", line, told)
			}
		}
	}
}

// TestNumbersTaken: a number of 64 bits is taken as it is, not cut.
func TestNumbersTaken(t *testing.T) {
	for _, n := range numbers {
		want := "error 1"
		if v, err := strconv.ParseInt(n, 10, 64); err != nil {
			t.Fatal(err)
		} else if v >= 0 && v < 1<<32 {
			want = "block"
		}
		if told := answers(t, "block a "+n)[0]; strings.Fields(told)[0] != strings.Fields(want)[0] || want == "error 1" && told != want {
			t.Errorf("block a %s: %q, not %q", n, told, want)
		}
	}
	talk(t,
		"put a 4294967297 x", "error 2",
		"put a -9223372036854775808 x", "error 2",
		"put a 9223372036854775807 xx", "error 2",
		"spoil 4294967296 0 0", "error 2",
		"fuse 9223372036854775807", "fuse",
		"put a 1 x", "put",
		"flush", "flush 1",
		"spoil 4294967296 0 0", "error 2",
		"spoil 0 4294967296 0", "error 2",
		"spoil 0 0 4294967296", "error 2",
		"spoil 0 0 0", "spoil",
		"spoil 0 0 0", "spoil",
		"fuse -9223372036854775808", "fuse",
		"put a 1 y", "put",
		"crash 9223372036854775807 1", "crash 1",
		"free", "free 125",
		"put a 1 z", "put",
		"crash -9223372036854775808 1", "crash 1",
		"free", "free 125",
	)
}

// TestHelp: what there is, and nothing ahead of it.
func TestHelp(t *testing.T) {
	talk(t, "help", helpText)
	for _, first := range strings.Fields(helpText) {
		if _, ok := forms[first]; !ok {
			t.Errorf("%s is not tried", first)
		}
	}
	if len(forms) != len(strings.Fields(helpText)) {
		t.Errorf("%d first words are tried", len(forms))
	}
}

// TestSum: of the words with one blank between.
func TestSum(t *testing.T) {
	talk(t,
		"sum abc", "sum ba7816bf8f01cfea414140de5dae2223b00361a396177a9cb410ff61f20015ad",
		"sum", "sum e3b0c44298fc1c149afbf4c8996fb92427ae41e4649b934ca495991b7852b855",
		"sum a", summed("a"),
		"sum a b", summed("a b"),
		"sum  a   b    c ", summed("a b c"),
		"sum sum", summed("sum"),
		"sum 1 2 3 4 5 6 7 8 9", summed("1 2 3 4 5 6 7 8 9"),
	)
}

// TestBlock: the block that another program than this one told of Sum of the word, the number, and the nonce.
func TestBlock(t *testing.T) {
	talk(t,
		"block a 1", "block 477f94baffd4a488390f25c8128348918790cb79e76775bdff081f3f65c3045ccae4ad7171f0acb2c3573c4517f5a5834cd0fba2594ec976057adf35bb1d5049",
		"block a 0", "block 7f29f6c3df511cb855da0e6618602182e636aadd6b9406f431391e844048c36b33f978eb1d0c855f65d8d5150b2b8c8bb218a97040438a7aa5805f626651eee0",
		"block a 4294967295", "block 12901b4f35f866fb9bbdcab0e0e5b5df2eb9df3dd1ea0c1ff00955a523efb66f6b89146a2285b161c7822c08cf25b054388b31c31625868caa2d901c94a9a292",
		"block bc 7", "block 8f0679ccd7104378ba330759770ea7e2007906392a78e7c2782ba433d02f2c501900dbf73f4a28a2776da96f8d4418d4b10b34ea24081b16c65a1c2201c6de32",
		"block a -1", "error 1",
		"block a 4294967296", "error 1",
	)
}

// TestBeginning: a session begins as behind new of the empty word, which is of the secret d("").
func TestBeginning(t *testing.T) {
	talk(t, "list", "list", "count", "count 0", "free", "free 128", "get a", "error 7", "reclaim", "reclaim 0 false", "lay", "lay", "count", "count 0", "free", "free 128", "open", "open 0", "flush", "flush 1")
	for _, word := range []string{"", "x", "y", "new", "\xff", strings.Repeat("x", 300)} {
		s, say := begun()
		if word != "" && say("new "+word) != "new" {
			t.Fatalf("new %q is not taken", word)
		}
		h := sha256.Sum256([]byte("d" + string([]byte{0, 0, 0, 0, 0, 0, byte(len(word) >> 8), byte(len(word))}) + word))
		if s.secret != string(h[:16]) {
			t.Errorf("new %q: the secret is %x, not %x", word, s.secret, h[:16])
		}
		if !reflect.DeepEqual(s.image, api.Image{}) || s.counter.Get() != 0 {
			t.Errorf("new %q: the image is not of nothing, or the counter is at %d", word, s.counter.Get())
		}
		// It is that secret that opens the device again.
		say("put a 3 x")
		say("flush")
		f, err := files.Open(s.device, s.counter, string(h[:16]))
		if err != nil {
			t.Fatalf("new %q: %v", word, err)
		}
		if text, err := f.Get("a"); text != "xxx" || err != nil {
			t.Errorf("new %q: %q, %v", word, text, err)
		}
	}
}

// TestNew: all is anew: the files, the counter, the device with its fuse, and the image.
func TestNew(t *testing.T) {
	for _, word := range []string{"x", "a", "1", "new"} {
		talk(t,
			"put a 1 x", "put",
			"flush", "flush 1",
			"image", "image",
			"fuse 0", "fuse",
			"put b 1 x", "error 14",
			"put b 1 x", "error 6",
			"new "+word, "new",
			"count", "count 0",
			"free", "free 128",
			"list", "list",
			"get a", "error 7",
			"put b 1 x", "put",
			"list", "list b",
			"flush", "flush 1",
			// The same secret, and the image of just this count: it would be taken again, were it kept.
			"image", "image",
			"new "+word, "new",
			"lay", "lay",
			"count", "count 0",
			"list", "list",
		)
	}
	talk(t, append(slices.Clone(lost), "count", "error 8", "new x", "new", "count", "count 0", "list", "list")...)
}

// TestPut: what a file says is the last word, so many times.
func TestPut(t *testing.T) {
	for _, c := range []struct {
		times int
		word  string
	}{{0, "x"}, {1, "x"}, {2, "yz"}, {79, "x"}, {80, "x"}, {81, "x"}, {7, "abcdefghijk"}, {1, strings.Repeat("ab", 800)}, {1000, "x"}, {999, "x"}, {1, strings.Repeat("x", 1680)}, {420, "wxyz"}, {3, "-"}, {3, "0"}, {2, "put"}} {
		talk(t,
			fmt.Sprint("put a ", c.times, " ", c.word), "put",
			"get a", got(strings.Repeat(c.word, c.times)),
			"list", "list a",
			"put a 1 other", "put",
			"get a", got("other"),
			"list", "list a",
		)
	}
}

// TestPutRange: how many times, from 0 to 1000; how many bytes, to 4000; ahead of all but ErrForm.
func TestPutRange(t *testing.T) {
	for _, c := range []struct {
		times, size int
		want        string
	}{
		{-1, 1, "error 2"},
		{-1000, 1, "error 2"},
		{0, 1, "put"},
		{0, 4001, "put"},
		{0, 9000, "put"},
		{1000, 1, "put"},
		{1001, 1, "error 2"},
		{1680, 1, "error 2"},
		{1, 1680, "put"},
		{1, 1681, "error 12"},
		{1, 4000, "error 12"},
		{1, 4001, "error 2"},
		{2, 2000, "error 12"},
		{2, 2001, "error 2"},
		{3, 1333, "error 12"},
		{3, 1334, "error 2"},
		{1000, 4, "error 12"},
		{1000, 5, "error 2"},
		{999, 4, "error 12"},
		{801, 5, "error 2"},
		{800, 5, "error 12"},
	} {
		word := strings.Repeat("x", c.size)
		talk(t, fmt.Sprint("put a ", c.times, " ", word), c.want)
		noName := c.want
		if noName != "error 2" {
			noName = "error 5"
		}
		talk(t, fmt.Sprint("put A ", c.times, " ", word), noName)
		none := c.want
		if none != "error 2" {
			none = "error 8"
		}
		talk(t, append(slices.Clone(lost), fmt.Sprint("put a ", c.times, " ", word), none, fmt.Sprint("put A ", c.times, " ", word), none)...)
		// It is the last word whose bytes are counted, not the first one.
		talk(t, fmt.Sprint("put ", word, "x 1 x"), map[bool]string{true: "put", false: "error 5"}[c.size < 10])
	}
}

// TestPutErrors: those of files, in their order; nothing is changed then.
func TestPutErrors(t *testing.T) {
	for _, name := range []string{"A", "1", "1a", "a-b", "abcdefghijk", "é", "\xff", "a\x00", "-", "aB"} {
		talk(t, "put "+name+" 1 x", "error 5", "put "+name+" 0 x", "error 5", "put "+name+" 1000 xxxx", "error 5", "list", "list", "free", "free 128")
	}
	eight := all("put a 1 x", "put b 1 x", "put c 1 x", "put d 1 x", "put e 1 x", "put f 1 x", "put g 1 x", "put h 1 x")
	talk(t, append(eight,
		"put i 0 x", "error 12",
		"put I 0 x", "error 5",
		"put h 2 x", "put",
		"get h", got("xx"),
		"list", "list a b c d e f g h",
		"del c", "del",
		"put i 0 x", "put",
		"list", "list a b d e f g h i",
	)...)
	talk(t,
		"put a 1 "+strings.Repeat("x", 1600), "put",
		"put b 81 x", "error 12",
		"put b 80 x", "put",
		"put a 1 "+strings.Repeat("y", 1601), "error 12",
		"get a", got(strings.Repeat("x", 1600)),
		"get b", got(strings.Repeat("x", 80)),
	)
	talk(t, "fuse 1", "fuse", "put a 1 x", "error 14", "put a 1 x", "error 6", "list", "list", "put A 1 x", "error 5", "put a 1001 x", "error 2", "put a 1000 xxxx", "error 12")
}

func TestDel(t *testing.T) {
	talk(t,
		"del a", "error 7",
		"put a 1 x", "put",
		"put b 1 y", "put",
		"del c", "error 7",
		"del A", "error 7",
		"del a", "del",
		"list", "list b",
		"get a", "error 7",
		"get b", got("y"),
		"del a", "error 7",
		"del b", "del",
		"list", "list",
		"put a 1 x", "put",
		"fuse 0", "fuse",
		"put b 1 x", "error 14",
		"del a", "error 6",
		"del c", "error 7",
		"get a", got("x"),
	)
}

func TestGet(t *testing.T) {
	talk(t,
		"get a", "error 7",
		"put a 3 abc", "put",
		"get a", "get 9 76b99ab4",
		"put b 0 abc", "put",
		"get b", "get 0 e3b0c442",
		"put c 1 abc", "put",
		"get c", "get 3 ba7816bf",
		"get A", "error 7",
		"get get", "error 7",
	)
}

// TestList: names rise, whatever order they were put in; a blank ahead of each.
func TestList(t *testing.T) {
	talk(t, append(all("put b 1 x", "put a10 1 x", "put a 1 x", "put zz 0 x", "put a2 1 x", "put list 1 x"),
		"list", "list a a10 a2 b list zz",
		"del zz", "del",
		"del a", "del",
		"list", "list a10 a2 b list",
	)...)
}

// TestFlush: behind it, Count is one more, and what was put is there again behind a crash.
func TestFlush(t *testing.T) {
	talk(t,
		"flush", "flush 1",
		"flush", "flush 2",
		"put a 2 x", "put",
		"count", "count 2",
		"flush", "flush 3",
		"count", "count 3",
		"put a 3 x", "put",
		"put b 3 x", "put",
		"del a", "del",
		"crash 0 0", "crash 3",
		"list", "list a",
		"get a", got("xx"),
		"fuse 1", "fuse",
		"flush", "error 14",
		"flush", "error 6",
		"count", "count 3",
		"open", "open 3",
		"flush", "error 14",
		"fuse -1", "fuse",
		"flush", "error 6",
		"open", "open 3",
		"flush", "flush 4",
	)
}

func TestReclaim(t *testing.T) {
	talk(t, "reclaim", "reclaim 0 false", "count", "count 0")
	full := all("put a 1 x", "put a 1 y", "put a 1 x", "put a 1 y", "put a 1 x", "put a 1 y", "put a 1 x", "put a 1 y", "put a 1 x", "put a 1 y", "put a 1 x", "put a 1 y", "put a 1 x", "put a 1 y")
	talk(t, append(full,
		"free", "free 113",
		"reclaim", "reclaim 0 false",
		"count", "count 0",
		"put a 1 z", "put",
		"free", "free 112",
		"reclaim", "reclaim 2 true",
		"free", "free 126",
		"count", "count 1",
		"get a", got("z"),
		"reclaim", "reclaim 0 false",
		"fuse 0", "fuse",
		"reclaim", "reclaim 0 false",
		"put a 1 y", "error 14",
		"reclaim", "error 6",
	)...)
	talk(t, append(full, "put a 1 z", "put", "fuse 1", "fuse", "reclaim", "error 14", "reclaim", "error 6", "crash 0 0", "crash 0", "list", "list")...)
	talk(t, append(full, "put a 1 z", "put", "del a", "del", "reclaim", "reclaim 1 true", "free", "free 127", "count", "count 1")...)
	// There is always room.
	var many []string
	for i := range 700 {
		many = append(many, fmt.Sprint("put a 1 ", i))
	}
	talk(t, append(all(many...), "get a", got("699"))...)
}

// TestCountFree: count tells what was told, free how many blocks there is room for.
func TestCountFree(t *testing.T) {
	talk(t,
		"count", "count 0",
		"free", "free 128",
		"put a 1 x", "put",
		"free", "free 126",
		"count", "count 0",
		"put a 81 y", "put",
		"free", "free 123",
		"flush", "flush 1",
		"free", "free 123",
		"count", "count 1",
		"del a", "del",
		"free", "free 123",
		"put a 1 x", "put",
		"free", "free 121",
	)
}

// TestOpen: the files are as the device has them, with what is not sure, if it was told; without it, if not.
func TestOpen(t *testing.T) {
	talk(t,
		"open", "open 0",
		"put a 1 x", "put",
		"open", "open 0",
		"list", "list",
		"free", "free 126",
		"put a 1 x", "put",
		"flush", "flush 1",
		"open", "open 1",
		"list", "list a",
		"put a 1 y", "put",
		"open", "open 1",
		"get a", got("x"),
		// The table is written, and not sure: Open takes it, and raises the counter.
		"put a 1 z", "put",
		"fuse 2", "fuse",
		"flush", "error 14",
		"count", "count 1",
		"open", "open 2",
		"count", "count 2",
		"get a", got("z"),
		"crash 0 0", "error 15",
		"count", "error 8",
		"open", "error 15",
		"crash 0 0", "error 15",
	)
}

// TestFuse: so many writes are done yet; a crash, new, or another fuse takes it away, open and lay do not.
func TestFuse(t *testing.T) {
	talk(t, "fuse 2", "fuse", "put a 1 x", "put", "put a 1 y", "error 14", "get a", got("x"))
	for n := range 6 {
		// A cell of the file, one of the directory; Sync, a slot, Sync.
		put, flush := "put", "flush 1"
		switch {
		case n < 2:
			put, flush = "error 14", "error 6"
		case n < 5:
			flush = "error 14"
		}
		talk(t, fmt.Sprint("fuse ", n), "fuse", "put a 1 x", put, "flush", flush)
	}
	talk(t, "fuse 0", "fuse", "fuse -1", "fuse", "put a 1 x", "put", "fuse 0", "fuse", "fuse 3", "fuse", "flush", "flush 1", "put a 1 y", "error 14")
	talk(t, "fuse 0", "fuse", "flush", "error 14", "open", "open 0", "flush", "error 14", "lay", "lay", "flush", "error 14", "crash 0 0", "crash 0", "flush", "flush 1")
	talk(t, "put a 1 x", "put", "flush", "flush 1", "fuse 0", "fuse", "spoil 0 0 120", "spoil", "get a", got("x"), "flush", "error 14", "new x", "new", "flush", "flush 1")
}

// TestCrash: what was told is there again; of a table that is not sure the first letter tells.
func TestCrash(t *testing.T) {
	for word, kept := range map[string]bool{"1": true, "0": false, "x": false, "10": true, "01": false, "11": true, "1x": true, "x1": false, "é1": false, "\xff1": false, "１": false, "-1": false, "l": false, "true": false, strings.Repeat("0", 99) + "1": false} {
		want, file := "crash 1", got("x")
		if kept {
			want, file = "crash 2", got("y")
		}
		talk(t,
			"put a 1 x", "put",
			"flush", "flush 1",
			"put a 1 y", "put",
			"fuse 2", "fuse",
			"flush", "error 14",
			"flush", "error 6",
			"crash 0 "+word, want,
			"count", strings.Replace(want, "crash", "count", 1),
			"get a", file,
			"flush", fmt.Sprint("flush ", map[bool]int{false: 2, true: 3}[kept]),
			"get a", file,
		)
	}
	talk(t, append(slices.Clone(lost), "crash 0 1", "error 15", "count", "error 8", "crash 0 1", "error 15")...)
}

// TestCrashBlocks: so many blocks of each zone are kept.
func TestCrashBlocks(t *testing.T) {
	for n, free := range map[int]int{-5: 128, -1: 128, 0: 128, 1: 126, 2: 124, 3: 123, 4: 122, 15: 111, 16: 110, 17: 110, 99: 110} {
		// 18 blocks: 16 in zone 0, and 2 in zone 1.
		talk(t,
			"put a 1000 x", "put",
			"put b 160 x", "put",
			"put c 0 x", "put",
			"free", "free 110",
			fmt.Sprintf("crash %d 0", n), "crash 0",
			"free", fmt.Sprint("free ", free),
			"list", "list",
		)
	}
}

// TestCrashAll: each letter is a write of a slot, in its order; so many blocks are kept of every zone.
func TestCrashAll(t *testing.T) {
	for _, c := range []struct {
		word string
		want [2]string
	}{
		{"0000", [2]string{"", ""}},
		{"1000", [2]string{"a", ""}},
		{"0100", [2]string{"", "b"}},
		{"1100", [2]string{"a", "b"}},
		{"0010", [2]string{"c", ""}},
		{"1111", [2]string{"c", "d"}},
		{"1101", [2]string{"a", "d"}},
		{"11", [2]string{"a", "b"}},
		{"111111", [2]string{"c", "d"}},
		{"é1", [2]string{"", "b"}},
		{"é\xff11", [2]string{"c", "d"}},
		{"xy1z", [2]string{"c", ""}},
	} {
		s, say := begun()
		for i, text := range []string{"a", "b", "c", "d"} {
			if err := s.device.Put(i%2, text); err != nil {
				t.Fatal(err)
			}
		}
		for zone := range api.Zones {
			for range 3 {
				if _, err := s.device.Append(zone, "x"); err != nil {
					t.Fatal(err)
				}
			}
		}
		if told := say("crash 2 " + c.word); told != "crash 0" {
			t.Fatalf("crash 2 %q: %q", c.word, told)
		}
		m := s.device.Image()
		for i, slot := range m.Slots {
			if strings.TrimRight(slot, "\x00") != c.want[i] {
				t.Errorf("crash 2 %q: slot %d is %.5q, not %q", c.word, i, slot, c.want[i])
			}
		}
		for zone, blocks := range m.Zones {
			if len(blocks) != 2 {
				t.Errorf("crash 2 %q: zone %d has %d blocks", c.word, zone, len(blocks))
			}
		}
	}
}

// TestImage: what is sure is kept, until it is kept again; keeping it changes nothing.
func TestImage(t *testing.T) {
	talk(t,
		"put a 1 x", "put",
		"flush", "flush 1",
		"put a 1 y", "put",
		"image", "image",
		"get a", got("y"),
		"free", "free 125",
		// What was not sure is not in the image.
		"lay", "lay",
		"get a", got("x"),
		"count", "count 1",
		"free", "free 126",
		// The image stays.
		"put a 1 z", "put",
		"lay", "lay",
		"get a", got("x"),
		"free", "free 126",
		"put a 1 z", "put",
		"flush", "flush 2",
		"image", "image",
		"lay", "lay",
		"get a", got("z"),
		"count", "count 2",
	)
}

// TestLay: a desk that is taken back notices; laid down as it was told last, all is there again.
func TestLay(t *testing.T) {
	talk(t, append(slices.Clone(lost), "count", "error 8", "lay", "lay", "open", "error 15", "crash 0 1", "error 15")...)
	talk(t,
		"put a 1 x", "put",
		"flush", "flush 1",
		"image", "image",
		"put a 1 y", "put",
		"flush", "flush 2",
		"lay", "lay",
		"get a", "error 8",
		"count", "error 8",
		"open", "error 15",
		"image", "image",
		"lay", "lay",
		"get a", "error 8",
		"new x", "new",
		"list", "list",
	)
	// Nothing was told: a device that was never told anything is as one that was not told yet.
	talk(t, "put a 1 x", "put", "lay", "lay", "count", "count 0", "list", "list", "free", "free 128")
	// The kept image is laid down again behind a lie, which is noticed, and the files are there again.
	talk(t,
		"put a 1 x", "put",
		"flush", "flush 1",
		"image", "image",
		"spoil 0 0 7", "spoil",
		"get a", "error 8",
		"lay", "lay",
		"get a", got("x"),
		"count", "count 1",
	)
}

// TestSpoilRange: a zone, a block of it that is sure, a byte of that.
func TestSpoilRange(t *testing.T) {
	for _, at := range []string{"0 0 0", "7 0 0", "0 -1 0"} {
		talk(t, "spoil "+at, "error 2")
	}
	// 17 blocks are sure: 16 in zone 0, and one in zone 1; one in zone 1 is not.
	put := []string{"put a 1000 x", "put", "put b 81 x", "put", "flush", "flush 1", "free", "free 111", "put c 0 x", "put", "free", "free 110"}
	for at, right := range map[string]bool{
		"0 0 0": true, "0 15 0": true, "0 0 127": true, "0 15 127": true, "1 0 0": true, "1 0 127": true,
		"0 16 0": false, "1 1 0": false, "1 2 0": false, "2 0 0": false, "7 0 0": false, "8 0 0": false, "-1 0 0": false,
		"0 -1 0": false, "1 -1 0": false, "0 0 -1": false, "0 0 128": false, "0 0 499": false, "1 0 128": false,
		"99 0 0": false, "0 99 0": false, "8 99 999": false,
	} {
		if right {
			talk(t, append(slices.Clone(put), "spoil "+at, "spoil")...)
			continue
		}
		// Nothing is changed: what is not sure is there yet.
		talk(t, append(slices.Clone(put), "spoil "+at, "error 2", "list", "list a b c", "free", "free 110", "count", "count 1")...)
		// There is no asking of files.
		talk(t, append(slices.Clone(lost), "spoil "+at, "error 2")...)
	}
}

// TestSpoil: who is lied to notices, at each byte that is sealed; spoilt twice it is as it was.
func TestSpoil(t *testing.T) {
	const sealed = 109 // bytes of a block that are sealed; those behind them are not seen
	for at := range api.Block {
		file, count, open := got("x"), "count 1", "open 1"
		if at < sealed {
			file, count, open = "error 8", "error 8", "error 15"
		}
		for _, off := range []int{0, 1} {
			spoil := fmt.Sprint("spoil 0 ", off, " ", at)
			talk(t,
				"put a 1 x", "put",
				"flush", "flush 1",
				"image", "image",
				"put a 1 y", "put",
				spoil, "spoil",
				"get a", file,
				"count", count,
				"open", open,
				spoil, "spoil",
				// What was not sure is lost.
				"get a", got("x"),
				"free", "free 126",
				spoil, "spoil",
				"lay", "lay",
				"get a", got("x"),
			)
		}
	}
	// A block that is of no use any more may be another one.
	talk(t, "put a 1 x", "put", "put a 1 y", "put", "flush", "flush 1", "spoil 0 0 5", "spoil", "get a", got("y"), "spoil 0 1 5", "spoil", "get a", "error 8")
}

// TestSpoilBit: of all that is sure just that bit is another one.
func TestSpoilBit(t *testing.T) {
	for _, c := range [][3]int{{0, 0, 0}, {0, 1, 5}, {0, 15, 127}, {1, 0, 64}, {1, 1, 108}} {
		s, say := begun()
		for _, line := range []string{"put a 1000 x", "put b 161 y", "flush", "image"} {
			say(line)
		}
		want, kept := s.device.Image(), s.image
		block := []byte(want.Zones[c[0]][c[1]])
		block[c[2]] = block[c[2]]/2*2 + 1 - block[c[2]]%2
		want.Zones[c[0]][c[1]] = string(block)
		if told := say(fmt.Sprintf("spoil %d %d %d", c[0], c[1], c[2])); told != "spoil" {
			t.Fatalf("spoil %v: %q", c, told)
		}
		if !reflect.DeepEqual(s.device.Image(), want) {
			t.Errorf("spoil %v: another bit, too, or not that one", c)
		}
		if say("lay"); reflect.DeepEqual(s.device.Image(), want) || !reflect.DeepEqual(s.image, kept) {
			t.Errorf("spoil %v: the image that is kept is spoilt, too", c)
		}
	}
}

// TestNone: without files, all that asks them is ErrNone; what does not ask them goes on.
func TestNone(t *testing.T) {
	for _, none := range [][]string{
		lost,
		{"put a 1 x", "put", "flush", "flush 1", "spoil 0 0 0", "spoil"},
		{"flush", "flush 1", "image", "image", "flush", "flush 2", "lay", "lay"},
		{"put a 1 x", "put", "fuse 2", "fuse", "flush", "error 14", "open", "open 1", "crash 0 0", "error 15"},
	} {
		talk(t, append(slices.Clone(none),
			"put a 1 x", "error 8",
			"put A 1 x", "error 8",
			"put a 1000 xxxx", "error 8",
			"put a 1001 x", "error 2",
			"put a 1", "error 3",
			"put a x x", "error 3",
			"del a", "error 8",
			"del zz", "error 8",
			"del", "error 3",
			"get a", "error 8",
			"get A", "error 8",
			"get", "error 3",
			"list", "error 8",
			"list a", "error 3",
			"flush", "error 8",
			"flush 1", "error 3",
			"reclaim", "error 8",
			"count", "error 8",
			"free", "error 8",
			"free x", "error 3",
			"", "ok",
			"help", helpText,
			"sum a", summed("a"),
			"block a -1", "error 1",
			"fuse 0", "fuse",
			"flush", "error 8",
			"image", "image",
			"lay", "lay",
			"count", "error 8",
			"spoil 99 0 0", "error 2",
			"open", "error 15",
			"crash 0 0", "error 15",
			"count", "error 8",
			"new x", "new",
			"count", "count 0",
		)...)
	}
}

// TestTorn: a directory that was told in the midst of a put is none: open notices, and there are no files then, although there were.
func TestTorn(t *testing.T) {
	var lines []string
	for i := range 8 {
		lines = append(lines, fmt.Sprintf("put abcdefgh%d%d 0 x", i, i))
	}
	lines = append(lines, "put abcdefgh00 1 xx")
	var free int
	told := answers(t, append(slices.Clone(lines), "free")...)
	if _, err := fmt.Sscanf(told[len(lines)], "free %d", &free); err != nil {
		t.Fatal(err)
	}
	// Behind 13 cells of the file and the directory's first one, no more than Reserve are free.
	for i := range free - (api.Reserve + 14) {
		lines = append(lines, fmt.Sprintf("put abcdefgh00 1 %02d", i))
	}
	torn := 0
	for fuse := range 40 {
		try := append(slices.Clone(lines), "flush", fmt.Sprint("fuse ", fuse), "put abcdefgh00 990 x", "list", "open", "count", "list")
		told := answers(t, try...)[len(lines)+2:]
		if told[2] != "error 15" {
			continue
		}
		torn++
		if len(strings.Fields(told[1])) != 9 || told[3] != "error 8" || told[4] != "error 8" {
			t.Fatalf("fuse %d: %q", fuse, told)
		}
	}
	if torn == 0 {
		t.Fatal("no directory was torn")
	}
}

// TestOrder: an error at a line leaves all as it was, and those behind it go on.
func TestOrder(t *testing.T) {
	talk(t,
		"put a 1 x", "put",
		"x", "error 3",
		"put b 1001 x", "error 2",
		"", "ok",
		"get b", "error 7",
		"get a", got("x"),
		"flush", "flush 1",
		"spoil 8 0 0", "error 2",
		"put a", "error 3",
		"list", "list a",
	)
}

// TestAlone: what a session answers hangs on its text alone.
func TestAlone(t *testing.T) {
	text := "put a 3 x\nflush\nimage\nput b 1 y\nget a\nlist\nfuse 0\n"
	want := Session(text)
	Session("new x\nput a 9 y\nflush\nflush\nfuse 0\n")
	if told := Session(text); told != want {
		t.Errorf("%q, and then %q", want, told)
	}
}
