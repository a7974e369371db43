package seal

import (
	"crypto/sha256"
	"encoding/binary"
	"encoding/hex"
	"math"
	"strings"
	"testing"

	"saltern/api"
	"saltern/plain"
	"saltern/stream"
)

// The heads are given: this does not build with others.
var (
	_ func(string, int, string) (string, error)         = Seal
	_ func(string, int, string) (string, string, error) = Open
)

const (
	someKey   = "0123456789abcdef0123456789abcdef"
	someNonce = "nonce nonce!"
	size      = 109 // bytes of a block: a tag of 16, a nonce of 12, a length of 1, a text of 80
)

// known are blocks, in hexadecimal digits, that another program made by the document's words, with OpenSSL's ChaCha20.
var known = []struct {
	key   string
	cell  int
	text  string
	block string
}{
	{someKey, 0, "", "104411457e28bb915277627760add8cb462453fb8fa5ec9ff5d9fbee3663aada97fc5ade4221154b94826398a0ca30b034ab3d7eed7b4a5d9bc798d0ef2d1d439b22d74d6918a8af50a74fb21554b19a34d58dbbb4545161e82427fb4ac375efc9e1661a6227a6d560d928de5d"},
	{someKey, 0, "abc", "1cccea8d9ffbe5c625034b6a663b53ab500f6dcf59d5d53888a1a3c5f1776005b1c345fc92fad5bccb5363dcb72c9997086ca8d76e27070dd6fe17f816d20af846aa881896293e9e5763594adb22076dcb0883de1a00e680ac35a6e9b448607a1139c2a725143335f57d181be3"},
	{someKey, 1, "abc", "f4d0f39963e30cdd639f011774fa4c0c05a96fd7da41b2db400c812a863aa29c858e833f712b69dfe3089bcac0884f8edf236e6a8f93fdca6f4bfcce16b0acc327fa067f44dee63a6722b8ed2ff9e7f9b280d6fa9b71a598d403a46010d1d8f827b9c47b313e0b65de87233cfc"},
	{someKey, 23, "abc", "8af9106a9dd2c18cf225038cd4d75db681104f85efd6bc93be432fe4174d9005688d2f49f0f89c05f5a2fcfab8563872955d46a71df96858bddff6e6a676c929631821edfb10ca16a636a2b70531ea043d166ac5beb46aad42723bb75e335dc5f67550bb4f3d3be676529befe3"},
	{strings.Repeat("\x00", 32), 5, strings.Repeat("t", 80), "60f9ac466bdd0d0f87e55f490e9dbd40e8ca74fca66cf15c82fcb4cd5eb614b7ba5e49a7d06b9782db62a6d7163e701344e3db38e33c811d01e2e93e6c78d85f5aa41caa8f6da88727ef63af4e7c74236a92d6409c5672cfd6be8991a940c5de2bbd68dcf3e30f565ddf105385"},
	{strings.Repeat("\xff", 32), 23, rising(0xb0, 80), "843a2003dfab5a34ca4711440cab4da19f5f6a2611f21f08b290aa40452842c946ba1bc680cc3db05039419834e6031f3abaa29fe264cc6f32296e5398288fd7fac08fc1b41e74f830b090aaf233c30d4685e656e79a50836acc6fa5f6af03d1c2fabea93223185edbcb46d3a1"},
	{rising(0, 32), 7, strings.Repeat("\x00", 63), "d531ebbf874cd13d462b8a88c0ea63c492a1eb119af02e88f945eeb3e0747339b719e3e48200ef3b71e07e0b712ac6a6a086f7ac96bb6f29d92779d5a04691e13e42dcbd6550a9a091515e6f067a82ebfc05803a2cf420074f1b94c191530516017b9ce8c2562ad67d3569a90b"},
	{someKey, 12, "a\x00", "29daf0ec067b96b4805457bced23529407b0be1e4d9c2f9e1a70aba4fb21f01fef10ba270f9a8b313ca622bc1c3f57c1c5677c7045ca1c7180a4f784a1ea363689bad979d7108f804faf4cde45cdb9eff97830532c4a0e101368a092bb51999c365e3f4e531593fc8ca65a68fe"},
}

// forged are blocks of the same program that no Seal tells, each with its right tag: of lengths that are too great, with other bytes than 0 behind a text, for cells that are none.
var forged = []struct {
	cell  int
	text  string
	block string
}{
	{0, strings.Repeat("u", 80), "b05715a08057c438646f8addc2f2f9056e6f6e6365206e6f6e636521d70f9f179f474f40f4fe9c4e73a9ffe2299998af0bf5acd46bb91dc315b73c479b4ec3fd21de1f72d55b1480cb20b47227144711fb8a99af6ecd5ed959189b696ddd5d513c36ec38bb93ca9d0b37e05e38"},
	{23, rising(0, 80), "0701ad64b50743d28a94f098721a00cf6e6f6e6365206e6f6e636521797aeb60e9363f338683e0310dd0879953fcfcc86d94ccb709d471ac7bde542cf11b97aa778f4f21870648df9579ec297d510356bdcbd9ec2c8012961751d32227e869660a07dc0b89aef6a2350ed86502"},
	{-1, "xx", "25cc5c4746879805a67ad0a65408b2d76e6f6e6365206e6f6e6365218402921a924a424df9f391437ea4f2ef249495a206f8a1d966b410ce18ba314a9643cef02cd3127fd856198dc62db97f2a194a1cf68794a263c053d45415966460d0505c313be135b69ec790063aed5335"},
	{24, strings.Repeat("y", 80), "26236674701de4e414966f48a06aa9f86e6f6e6365206e6f6e636521d603931b934b434cf8f290427fa5f3ee259594a307f9a0d867b511cf19bb304b9742cff12dd2137ed957188cc72cb87e2b184b1df78695a362c152d55514976561d1515d303ae034b79fc691073bec5234"},
}

// rising is so many bytes, each one above the one ahead of it.
func rising(first byte, n int) string {
	out := make([]byte, n)
	for i := range out {
		out[i] = first + byte(i)
	}
	return string(out)
}

// drawn is a text of so many bytes, few of them alike, many of them no UTF-8.
func drawn(seed, n int) string {
	out := make([]byte, n)
	x := uint32(seed)*2654435761 + 1
	for i := range out {
		x = x*1664525 + 1013904223
		out[i] = byte(x >> 24)
	}
	return string(out)
}

// heldMark is a mark of a key, a cell and a text made another way, from the library's SHA-256.
func heldMark(kind byte, key string, cell int, text string) string {
	all := []byte{kind}
	number := string(binary.BigEndian.AppendUint64(nil, uint64(cell)))
	for _, part := range []string{key, number, text} {
		all = binary.BigEndian.AppendUint64(all, uint64(len(part)))
		all = append(all, part...)
	}
	mark := sha256.Sum256(all)
	return string(mark[:16])
}

// forge is a block with its right tag, of any nonce and any 81 bytes, by whole blocks of the stream.
func forge(t *testing.T, key string, cell int, nonce string, body []byte) string {
	t.Helper()
	rest := []byte(nonce)
	for i, b := range body {
		block, err := stream.Block(key, 1+i/64, nonce)
		if err != nil || len(nonce) != 12 || len(body) != 81 {
			t.Fatalf("no block can be forged: error %v", err)
		}
		rest = append(rest, b^block[i%64])
	}
	return heldMark('g', key, cell, string(rest)) + string(rest)
}

// held is a block made another way than Seal makes it.
func held(t *testing.T, key string, cell int, text string) string {
	t.Helper()
	body := make([]byte, 81)
	body[0] = byte(len(text))
	copy(body[1:], text)
	return forge(t, key, cell, heldMark('n', key, cell, text)[:12], body)
}

// must holds an error to be the one that is asked for (of OK: nil), without a place.
func must(t *testing.T, what string, err error, want api.Errno) {
	t.Helper()
	if e, place := plain.Place(err); e != want || place != -1 || (err == nil) != (want == api.OK) {
		t.Errorf("%s: error %v (place %d), not %v", what, err, place, want)
	}
}

// sealed is a block, without an error.
func sealed(t *testing.T, key string, cell int, text string) string {
	t.Helper()
	s, err := Seal(key, cell, text)
	must(t, "Seal", err, api.OK)
	if len(s) != size {
		t.Fatalf("Seal of cell %d and %q has %d bytes", cell, text, len(s))
	}
	return s
}

// unsealed holds Seal to an error, and to no block beside it (P2).
func unsealed(t *testing.T, key string, cell int, text string, want api.Errno) {
	t.Helper()
	s, err := Seal(key, cell, text)
	must(t, "Seal", err, want)
	if s != "" {
		t.Errorf("Seal of a key of %d bytes, cell %d and %d bytes: %x beside an error", len(key), cell, len(text), s)
	}
}

// opened holds Open to the text that is asked for, and to the tag with which the block begins.
func opened(t *testing.T, key string, cell int, s, want string) {
	t.Helper()
	tag, text, err := Open(key, cell, s)
	must(t, "Open", err, api.OK)
	if text != want || tag != s[:16] {
		t.Errorf("Open of cell %d: tag %x, not %x; text %q, not %q", cell, tag, s[:16], text, want)
	}
}

// unopened holds Open to an error, and to neither a tag nor a text beside it (P2).
func unopened(t *testing.T, key string, cell int, s string, want api.Errno) {
	t.Helper()
	tag, text, err := Open(key, cell, s)
	must(t, "Open", err, want)
	if tag != "" || text != "" {
		t.Errorf("Open of a key of %d bytes, cell %d and %d bytes: %x and %q beside an error", len(key), cell, len(s), tag, text)
	}
}

// TestKnown: 5.1, by known blocks.
func TestKnown(t *testing.T) {
	for _, k := range known {
		s := sealed(t, k.key, k.cell, k.text)
		if got := hex.EncodeToString([]byte(s)); got != k.block {
			t.Errorf("Seal of cell %d and %q: %s, not %s", k.cell, k.text, got, k.block)
		}
		if got := hex.EncodeToString([]byte(held(t, k.key, k.cell, k.text))); got != k.block {
			t.Errorf("the other way of cell %d and %q is wrong", k.cell, k.text)
		}
		opened(t, k.key, k.cell, s, k.text)
	}
}

// TestTexts: 5.1, texts of 0 bytes up to Plain, of whatever bytes (P5), are sealed and opened as they were; ErrLimit of all that are longer, also where a byte would not hold their length.
func TestTexts(t *testing.T) {
	for n := range 600 {
		key, cell := drawn(n, 32), n%api.Cells
		for _, text := range []string{drawn(1000+n, n), strings.Repeat("\x00", n), strings.Repeat("\xff", n), rising(byte(n), n)} {
			if n > 80 {
				unsealed(t, key, cell, text, api.ErrLimit)
				continue
			}
			s := sealed(t, key, cell, text)
			if want := held(t, key, cell, text); s != want {
				t.Errorf("Seal of %d bytes: %x, not %x", n, s, want)
			}
			opened(t, key, cell, s, text)
		}
	}
	for _, n := range []int{1 << 16, 1<<16 + 80, api.MaxText} {
		unsealed(t, someKey, 0, strings.Repeat("a", n), api.ErrLimit)
	}
	letters := strings.Repeat("ä", 40)
	opened(t, someKey, 0, sealed(t, someKey, 0, letters), letters)
	unsealed(t, someKey, 0, letters+"a", api.ErrLimit)
}

// TestKeySizes: 5.1, ErrArg of every key that has not 32 bytes; bytes are counted, not letters (P5).
func TestKeySizes(t *testing.T) {
	block := sealed(t, someKey, 3, "text")
	keys := []string{strings.Repeat("ä", 32), strings.Repeat("k", 1<<16+32), someKey + "\x00", someKey[:31]}
	for n := range 300 {
		keys = append(keys, drawn(n, n), strings.Repeat("\x00", n), strings.Repeat("k", n))
	}
	for _, key := range keys {
		if len(key) != 32 {
			unsealed(t, key, 3, "text", api.ErrArg)
			unopened(t, key, 3, block, api.ErrArg)
			continue
		}
		opened(t, key, 3, sealed(t, key, 3, "text"), "text")
		unopened(t, key, 3, block, api.ErrSpoilt)
	}
	opened(t, strings.Repeat("ä", 16), 3, sealed(t, strings.Repeat("ä", 16), 3, "text"), "text")
}

// TestCells: 5.1, each cell from the first to the last is sealed for; ErrArg of those below and behind.
func TestCells(t *testing.T) {
	for cell := -300; cell < 600; cell++ {
		if cell < 0 || cell > 23 {
			unsealed(t, someKey, cell, "text", api.ErrArg)
			continue
		}
		s := sealed(t, someKey, cell, "text")
		if want := held(t, someKey, cell, "text"); s != want {
			t.Errorf("Seal of cell %d: %x, not %x", cell, s, want)
		}
		opened(t, someKey, cell, s, "text")
	}
	for _, cell := range []int{-1, api.Cells, math.MinInt, math.MaxInt, 1 << 31, 1 << 32, 1<<32 + 3, -1 << 32} {
		unsealed(t, someKey, cell, "text", api.ErrArg)
		unsealed(t, someKey, cell, "", api.ErrArg)
	}
}

// TestOpenAnyCell: 5.1, Open asks of a cell only that the block is sealed for it, be it one or none.
func TestOpenAnyCell(t *testing.T) {
	body := append([]byte{3}, drawn(7, 80)...)
	for _, cell := range []int{-1, api.Cells, api.Cells + 1, 255, 256, 1 << 32, math.MinInt, math.MaxInt} {
		opened(t, someKey, cell, forge(t, someKey, cell, someNonce, body), string(body[1:4]))
		unopened(t, someKey, cell, sealed(t, someKey, 0, "text"), api.ErrSpoilt)
		unopened(t, someKey, cell, "", api.ErrSpoilt)
	}
}

// TestFirstError: P3, ErrArg comes ahead of ErrLimit, and of ErrSpoilt, where both apply.
func TestFirstError(t *testing.T) {
	long := strings.Repeat("a", 81)
	for _, n := range []int{0, 1, 31, 33, 64} {
		for _, cell := range []int{-1, 0, 23, 24} {
			unsealed(t, drawn(n, n), cell, long, api.ErrArg)
			for _, s := range []string{"", "short", strings.Repeat("\x00", 108), strings.Repeat("\x00", size), drawn(1, 128)} {
				unopened(t, drawn(n, n), cell, s, api.ErrArg)
			}
		}
	}
	for _, cell := range []int{math.MinInt, -1, 24, math.MaxInt} {
		unsealed(t, someKey, cell, long, api.ErrArg)
	}
	unsealed(t, someKey, 0, long, api.ErrLimit)
	unsealed(t, someKey, 23, long, api.ErrLimit)
}

// TestShort: 5.1, ErrSpoilt of each text that has not as many bytes as Seal tells, even if its tag is that of all others that are there.
func TestShort(t *testing.T) {
	for _, text := range []string{"", "a", strings.Repeat("t", 80)} {
		s := sealed(t, someKey, 9, text)
		for n := range size {
			unopened(t, someKey, 9, s[:n], api.ErrSpoilt)
			unopened(t, someKey, 9, s[n+1:], api.ErrSpoilt)
		}
		for n := 16; n < size; n++ {
			rest := s[16:n]
			unopened(t, someKey, 9, heldMark('g', someKey, 9, rest)+rest, api.ErrSpoilt)
		}
	}
}

// TestLong: 5.1, what stands behind a block is not seen; what stands ahead of it is.
func TestLong(t *testing.T) {
	s := sealed(t, someKey, 9, "text")
	for _, behind := range []string{"\x00", "x", strings.Repeat("\x00", api.Block-size), drawn(1, 500), s} {
		opened(t, someKey, 9, s+behind, "text")
		unopened(t, someKey, 9, behind[:1]+s, api.ErrSpoilt)
	}
	for i := range api.Block - size {
		b := []byte(s + strings.Repeat("\x00", api.Block-size))
		b[size+i] ^= 0xff
		opened(t, someKey, 9, string(b), "text")
	}
	// A tag that is of what stands behind, too, is not the block's.
	all := s[16:] + "\x00"
	unopened(t, someKey, 9, heldMark('g', someKey, 9, all)+all, api.ErrSpoilt)
}

// TestChanged: 5.1, ErrSpoilt of a block of which any one byte is another one, whichever it is then.
func TestChanged(t *testing.T) {
	for _, text := range []string{"", "text", strings.Repeat("t", 80)} {
		s := sealed(t, someKey, 9, text)
		for i := range size {
			for by := 1; by < 256; by++ {
				b := []byte(s)
				b[i] ^= byte(by)
				unopened(t, someKey, 9, string(b), api.ErrSpoilt)
				if by%64 == 1 {
					unopened(t, someKey, 9, string(b)+"behind it", api.ErrSpoilt)
				}
			}
		}
	}
}

// TestForeign: 5.1, ErrSpoilt of what was never sealed, and of parts of two blocks.
func TestForeign(t *testing.T) {
	one, two := sealed(t, someKey, 9, "one"), sealed(t, someKey, 9, "two")
	for _, at := range []int{16, 28, 29} {
		unopened(t, someKey, 9, one[:at]+two[at:], api.ErrSpoilt)
	}
	for seed := range 100 {
		unopened(t, someKey, seed%api.Cells, drawn(seed, size+seed%20), api.ErrSpoilt)
	}
	for _, b := range []string{"\x00", "\xff", "a"} {
		unopened(t, someKey, 0, strings.Repeat(b, size), api.ErrSpoilt)
		unopened(t, someKey, 0, strings.Repeat(b, api.Block), api.ErrSpoilt)
	}
}

// TestOtherKey: 5.1, a block is opened by its key alone: ErrSpoilt by one of which any bit is another one.
func TestOtherKey(t *testing.T) {
	s := sealed(t, someKey, 9, "text")
	for bit := range 8 * 32 {
		other := []byte(someKey)
		other[bit/8] ^= 1 << (bit % 8)
		unopened(t, string(other), 9, s, api.ErrSpoilt)
	}
}

// TestOtherCell: 5.1, a block is opened for its cell alone, whatever stands in it.
func TestOtherCell(t *testing.T) {
	for cell := range api.Cells {
		for _, text := range []string{"", "text"} {
			s := sealed(t, someKey, cell, text)
			for other := -1; other <= api.Cells; other++ {
				if other != cell {
					unopened(t, someKey, other, s, api.ErrSpoilt)
				}
			}
			for _, other := range []int{cell + 256, cell + 1<<32, cell - 1<<32, cell + math.MinInt} {
				unopened(t, someKey, other, s, api.ErrSpoilt)
			}
		}
	}
}

// TestForged: 5.1, by known blocks that no Seal tells, but whose tags are right.
func TestForged(t *testing.T) {
	for _, f := range forged {
		block, err := hex.DecodeString(f.block)
		if err != nil {
			t.Fatal(err)
		}
		opened(t, someKey, f.cell, string(block), f.text)
	}
}

// TestLengths: 5.1, of all 256 length bytes: so many bytes, of those above Plain just Plain; which bytes stand behind the text is not asked.
func TestLengths(t *testing.T) {
	for n := range 256 {
		body := append([]byte{byte(n)}, drawn(n, 80)...)
		s := forge(t, someKey, 4, someNonce, body)
		opened(t, someKey, 4, s, string(body[1:1+min(n, 80)]))
		opened(t, someKey, 4, s+drawn(n, 200), string(body[1:1+min(n, 80)]))
	}
}

// TestNoTwoAlike: no two blocks are alike, nor their tags, nor their nonces, of other keys, cells or texts.
func TestNoTwoAlike(t *testing.T) {
	seen := map[string]int{}
	n := 0
	for _, key := range []string{someKey, drawn(1, 32), strings.Repeat("\x00", 32)} {
		for cell := range api.Cells {
			for _, text := range []string{"", "\x00", "\x00\x00", "a", "a\x00", "b", strings.Repeat("\x00", 80)} {
				s := sealed(t, key, cell, text)
				for _, part := range []string{s[:16], s[16:28], s[28:]} {
					if other, ok := seen[part]; ok {
						t.Errorf("of %d and %d something is alike", other, n)
					}
					seen[part] = n
				}
				n++
			}
		}
	}
}

// TestFits: a block fits in one of the device's.
func TestFits(t *testing.T) {
	if s := sealed(t, someKey, 0, strings.Repeat("t", api.Plain)); len(s) > api.Block {
		t.Errorf("it has %d bytes", len(s))
	}
}

// TestAgain: P4, an answer hangs on its arguments alone, whatever was asked between.
func TestAgain(t *testing.T) {
	ask := func(i int) string {
		key, cell := drawn(i, 32-i%9/8), i%26-1
		s, errSeal := Seal(key, cell, drawn(i, i%83))
		tag, text, errOpen := Open(key, cell, s)
		return s + tag + text + api.Tell(errSeal).Error() + api.Tell(errOpen).Error()
	}
	var first []string
	for i := range 200 {
		first = append(first, ask(i))
	}
	for i := 199; i >= 0; i-- {
		if ask(i) != first[i] {
			t.Errorf("of %d an answer is another one the second time", i)
		}
	}
}
