package sum

import (
	"crypto/sha256"
	"encoding/binary"
	"encoding/hex"
	"math"
	"slices"
	"strings"
	"testing"
)

// The heads are given: this does not build with others.
var (
	_ func(string) string          = Sum
	_ func(string) string          = Hex
	_ func(int) string             = Num
	_ func(byte, ...string) string = Mark
)

// mixed is a text of so many bytes, few of them alike, many of them no UTF-8.
func mixed(size int) string {
	out := make([]byte, size)
	x := uint32(size)*2654435761 + 1
	for i := range out {
		x = x*1664525 + 1013904223
		out[i] = byte(x >> 24)
	}
	return string(out)
}

// held is the library's SHA-256, against which Sum is held.
func held(s string) string {
	h := sha256.Sum256([]byte(s))
	return string(h[:])
}

// TestSumKnown: 1.1, by the texts that FIPS 180-4's examples have.
func TestSumKnown(t *testing.T) {
	known := []struct{ text, want string }{
		{"", "e3b0c44298fc1c149afbf4c8996fb92427ae41e4649b934ca495991b7852b855"},
		{"abc", "ba7816bf8f01cfea414140de5dae2223b00361a396177a9cb410ff61f20015ad"},
		{"abcdbcdecdefdefgefghfghighijhijkijkljklmklmnlmnomnopnopq", "248d6a61d20638b8e5c026930c3e6039a33ce45964ff2167f6ecedd419db06c1"},
		{"abcdefghbcdefghicdefghijdefghijkefghijklfghijklmghijklmnhijklmnoijklmnopjklmnopqklmnopqrlmnopqrsmnopqrstnopqrstu", "cf5b16a778af8380036ce59e7b0492370b249b11e8f07a51afac45037afee9d1"},
		{strings.Repeat("a", 1_000_000), "cdc76e5c9914fb9281a1c7e284d73e67f1809a48a497200e046d39ccc7112cd0"},
	}
	for _, k := range known {
		if got := hex.EncodeToString([]byte(Sum(k.text))); got != k.want {
			t.Errorf("Sum of %.80q: %s, not %s", k.text, got, k.want)
		}
	}
}

// TestSumLengths: 1.1, of texts that end about the end of a block, of one and of several blocks.
func TestSumLengths(t *testing.T) {
	for size := range 5*blockSize + 2 {
		for _, s := range []string{mixed(size), strings.Repeat("\x00", size), strings.Repeat("\xff", size)} {
			if got := Sum(s); got != held(s) {
				t.Errorf("Sum of %d bytes: %x, not %x", size, got, held(s))
			}
		}
	}
	for _, size := range []int{4095, 4096, 4097, 20_000, 65_535, 65_536, 100_003} {
		if s := mixed(size); Sum(s) != held(s) {
			t.Errorf("Sum of %d bytes is another one", size)
		}
	}
}

// TestSumBytes: P5, texts are bytes, whether they are letters or not.
func TestSumBytes(t *testing.T) {
	for b := range 256 {
		for _, s := range []string{string([]byte{byte(b)}), "a" + string([]byte{byte(b)}) + "\x00"} {
			if Sum(s) != held(s) {
				t.Errorf("Sum of %q is another one", s)
			}
		}
	}
}

// TestEnding: 1.1, whole blocks, whose last eight bytes are how many bits there are, also where 32 bits are too few for them.
func TestEnding(t *testing.T) {
	sizes := []int{0, 1, 54, 55, 56, 57, 63, 64, 65, 119, 120, 128, 1<<29 - 1, 1 << 29, 1<<29 + 1, 1<<31 - 1}
	for _, size := range sizes {
		end := ending(size)
		if (size+len(end))%blockSize != 0 || len(end) < 9 || len(end) > blockSize+8 {
			t.Errorf("ending of %d has %d bytes", size, len(end))
			continue
		}
		zeros := end[1 : len(end)-8]
		if end[0] != 0x80 || strings.Trim(zeros, "\x00") != "" {
			t.Errorf("ending of %d: %x", size, end)
		}
		if got := binary.BigEndian.Uint64([]byte(end[len(end)-8:])); got != 8*uint64(size) {
			t.Errorf("ending of %d tells %d bits", size, got)
		}
	}
}

// TestHex: 1.1, two small digits a byte, whatever the byte is.
func TestHex(t *testing.T) {
	known := []struct{ text, want string }{
		{"", ""},
		{"\x00", "00"},
		{"\x0f\xf0", "0ff0"},
		{"abc", "616263"},
		{"\x01\x23\x45\x67\x89\xab\xcd\xef\xff", "0123456789abcdefff"},
		{"\xc3\xa4", "c3a4"},
	}
	for _, k := range known {
		if got := Hex(k.text); got != k.want {
			t.Errorf("Hex of %q: %q, not %q", k.text, got, k.want)
		}
	}
	for b := range 256 {
		s := string([]byte{byte(b)})
		if want := hex.EncodeToString([]byte(s)); Hex(s) != want {
			t.Errorf("Hex of %q: %q, not %q", s, Hex(s), want)
		}
	}
	if s := mixed(1000); Hex(s) != hex.EncodeToString([]byte(s)) {
		t.Error("Hex of 1000 bytes is another one")
	}
}

// TestNum: 1.1, eight bytes, the greatest first, two's complement.
func TestNum(t *testing.T) {
	known := []struct {
		n    int
		want string
	}{
		{0, "\x00\x00\x00\x00\x00\x00\x00\x00"},
		{1, "\x00\x00\x00\x00\x00\x00\x00\x01"},
		{255, "\x00\x00\x00\x00\x00\x00\x00\xff"},
		{256, "\x00\x00\x00\x00\x00\x00\x01\x00"},
		{258, "\x00\x00\x00\x00\x00\x00\x01\x02"},
		{1 << 31, "\x00\x00\x00\x00\x80\x00\x00\x00"},
		{1 << 32, "\x00\x00\x00\x01\x00\x00\x00\x00"},
		{0x0102030405060708, "\x01\x02\x03\x04\x05\x06\x07\x08"},
		{math.MaxInt64, "\x7f\xff\xff\xff\xff\xff\xff\xff"},
		{-1, "\xff\xff\xff\xff\xff\xff\xff\xff"},
		{-2, "\xff\xff\xff\xff\xff\xff\xff\xfe"},
		{-256, "\xff\xff\xff\xff\xff\xff\xff\x00"},
		{-1 << 32, "\xff\xff\xff\xff\x00\x00\x00\x00"},
		{math.MinInt64, "\x80\x00\x00\x00\x00\x00\x00\x00"},
	}
	for _, k := range known {
		if got := Num(k.n); got != k.want {
			t.Errorf("Num of %d: %x, not %x", k.n, got, k.want)
		}
	}
}

// TestMark: 1.1, what is summed is written out by hand.
func TestMark(t *testing.T) {
	long := mixed(259)
	known := []struct {
		kind   byte
		parts  []string
		summed string
	}{
		{'x', nil, "x"},
		{'x', []string{}, "x"},
		{0, nil, "\x00"},
		{255, nil, "\xff"},
		{'x', []string{""}, "x\x00\x00\x00\x00\x00\x00\x00\x00"},
		{'x', []string{"", ""}, "x\x00\x00\x00\x00\x00\x00\x00\x00\x00\x00\x00\x00\x00\x00\x00\x00"},
		{'x', []string{"a"}, "x\x00\x00\x00\x00\x00\x00\x00\x01a"},
		{'y', []string{"a"}, "y\x00\x00\x00\x00\x00\x00\x00\x01a"},
		{'x', []string{"a", "b"}, "x\x00\x00\x00\x00\x00\x00\x00\x01a\x00\x00\x00\x00\x00\x00\x00\x01b"},
		{'x', []string{"", "ab"}, "x\x00\x00\x00\x00\x00\x00\x00\x00\x00\x00\x00\x00\x00\x00\x00\x02ab"},
		{200, []string{"\xc3\xa4"}, "\xc8\x00\x00\x00\x00\x00\x00\x00\x02\xc3\xa4"},
		{'x', []string{long, "c"}, "x\x00\x00\x00\x00\x00\x00\x01\x03" + long + "\x00\x00\x00\x00\x00\x00\x00\x01c"},
	}
	for _, k := range known {
		got := Mark(k.kind, k.parts...)
		if want := held(k.summed)[:16]; got != want {
			t.Errorf("Mark of %q and %d parts: %x, not %x", k.kind, len(k.parts), got, want)
		}
	}
}

// TestMarkTellsApart: what is cut otherwise, or stands in another order, has another mark.
func TestMarkTellsApart(t *testing.T) {
	lists := [][]string{{}, {""}, {"", ""}, {"ab"}, {"a", "b"}, {"b", "a"}, {"", "ab"}, {"ab", ""}, {"a", "", "b"}}
	seen := map[string]int{}
	for i, l := range lists {
		m := Mark('x', l...)
		if j, ok := seen[m]; ok {
			t.Errorf("%q and %q have one mark", lists[j], l)
		}
		seen[m] = i
	}
}

// TestMarkLeavesParts: P4, neither the list nor what stands behind its length is written into, nor is the list kept.
func TestMarkLeavesParts(t *testing.T) {
	all := []string{"a", "b", "behind", "it"}
	parts := all[:2]
	before := Mark('x', parts...)
	if !slices.Equal(all, []string{"a", "b", "behind", "it"}) {
		t.Errorf("the list is %q now", all)
	}
	kept := strings.Clone(before)
	all[0] = "c"
	if before != kept {
		t.Error("a mark hangs on its list")
	}
	if Mark('x', "a", "b") != kept {
		t.Error("a mark hangs on what was asked ahead of it")
	}
}

// TestSizes: 1.1, a sum has 32 bytes, a number 8, a mark 16, whatever they are of.
func TestSizes(t *testing.T) {
	for size := range 200 {
		s := mixed(size)
		if len(Sum(s)) != 32 || len(Hex(s)) != 2*size || len(Num(size-100)) != 8 || len(Mark(byte(size), s)) != 16 {
			t.Errorf("of %d bytes an answer has another size", size)
		}
	}
}

// TestAgain: P4, an answer hangs on its arguments alone, whatever was asked between.
func TestAgain(t *testing.T) {
	ask := func(size int) string {
		s := mixed(size)
		return Sum(s) + Hex(s) + Num(-size) + Mark(byte(size), s, s)
	}
	var first []string
	for size := range 130 {
		first = append(first, ask(size))
	}
	for size := 129; size >= 0; size-- {
		if ask(size) != first[size] {
			t.Errorf("of %d bytes an answer is another one the second time", size)
		}
	}
}
