package stream

import (
	"encoding/binary"
	"encoding/hex"
	"math"
	"math/bits"
	"strings"
	"testing"

	"saltern/api"
)

// The heads are given: this does not build with others.
var (
	_ func(string, int, string) (string, error)    = Block
	_ func(string, string, string) (string, error) = Xor
)

const (
	rising  = "000102030405060708090a0b0c0d0e0f101112131415161718191a1b1c1d1e1f"
	falling = "fffefdfcfbfaf9f8f7f6f5f4f3f2f1f0efeeedecebeae9e8e7e6e5e4e3e2e1e0"
	zeros   = "0000000000000000000000000000000000000000000000000000000000000000"
	nine    = "000000090000004a00000000"
)

// known are blocks, with all in hexadecimal digits: those of RFC 8439 (2.3.2, and A.1), and, of the numbers' edges, those that OpenSSL makes.
var known = []struct {
	key   string
	n     int
	nonce string
	want  string
}{
	{rising, 1, nine, "10f1e7e4d13b5915500fdd1fa32071c4c7d1f4c733c068030422aa9ac3d46c4ed2826446079faa0914c2d705d98b02a2b5129cd1de164eb9cbd083e8a2503c4e"},
	{zeros, 0, zeros[:24], "76b8e0ada0f13d90405d6ae55386bd28bdd219b8a08ded1aa836efcc8b770dc7da41597c5157488d7724e03fb8d84a376a43b8f41518a11cc387b669b2ee6586"},
	{zeros, 1, zeros[:24], "9f07e7be5551387a98ba977c732d080dcb0f29a048e3656912c6533e32ee7aed29b721769ce64e43d57133b074d839d531ed1f28510afb45ace10a1f4b794d6f"},
	{zeros[2:] + "01", 1, zeros[:24], "3aeb5224ecf849929b9d828db1ced4dd832025e8018b8160b82284f3c949aa5a8eca00bbb4a73bdad192b5c42f73f2fd4e273644c8b36125a64addeb006c13a0"},
	{"00ff" + zeros[4:], 2, zeros[:24], "72d54dfbf12ec44b362692df94137f328fea8da73990265ec1bbbea1ae9af0ca13b25aa26cb4a648cb9b9d1be65b2c0924a66c54d545ec1b7374f4872e99f096"},
	{zeros, 0, zeros[:22] + "02", "c2c64d378cd536374ae204b9ef933fcd1a8b2288b3dfa49672ab765b54ee27c78a970e0e955c14f3a88e741b97c286f75f8fc299e8148362fa198a39531bed6d"},
	{falling, 258, "000102030405060708090a0b", "2ea36356c8a08953307184dcc90c3d1f78c6c1ac8038099cfb01d6868a880158e9933289614edd135fbd03dce39150d5fde6ee963816b7b61bf05a1e2cb9248f"},
	{rising, 1<<31 - 1, nine, "02c70b58c51c334271e4620ca0592ec09518c06f9b4c89d41ba9bf9c90518f2b946f3568416c381a02cdc045dce4215ad002f237cd35400b6ad1a88ffdcf4fa0"},
	{rising, 1 << 31, nine, "4c76f034662332641d91b481c074c7454e969ecae52c92c9df756ba56a7cd932d4750c0d1e0609fc44ee6681cd75bdad5a82f37b3586029e9a89a64726396f47"},
	{rising, 1<<32 - 1, nine, "ff2941b8d740f6cbb50936bf997ebd5218cb108dc53f41c64841d0218167430ca03b770ca74ccb642a28194d1dedd2ed13151e25ec5d7faeb6d060bfb7e6b146"},
	{strings.Repeat("f", 64), 1<<32 - 1, strings.Repeat("f", 24), "d72b21cfa4b6b0c41d61f62b8a11159c6a4f63bc56c2035796c7ad37811121bbec56d54a530f3a933dd28a50feb23bfaf64f405be985f3718bdf4683e96be749"},
}

// bytesOf reads hexadecimal digits.
func bytesOf(digits string) string {
	b, err := hex.DecodeString(digits)
	if err != nil {
		panic(err)
	}
	return string(b)
}

// drawn is a text of so many bytes, few of them alike, many of them no UTF-8.
func drawn(seed, size int) string {
	out := make([]byte, size)
	x := uint32(seed)*2654435761 + 1
	for i := range out {
		x = x*1664525 + 1013904223
		out[i] = byte(x >> 24)
	}
	return string(out)
}

// held is a block made another way, by a list of which words each quarter round takes; TestBlockKnown holds it to known blocks, too.
func held(key string, n uint32, nonce string) string {
	all := []byte("expand 32-byte k" + key)
	all = append(binary.LittleEndian.AppendUint32(all, n), nonce...)
	var start [16]uint32
	for i := range start {
		start[i] = binary.LittleEndian.Uint32(all[4*i:])
	}
	w := start
	for range 10 {
		for _, q := range []string{"048c", "159d", "26ae", "37bf", "05af", "16bc", "278d", "349e"} {
			var p [4]*uint32
			for i := range p {
				p[i] = &w[strings.IndexByte("0123456789abcdef", q[i])]
			}
			for i, turn := range []int{16, 12, 8, 7} {
				sum, turned := p[2*(i%2)], p[3-2*(i%2)]
				*sum += *p[1+2*(i%2)]
				*turned = bits.RotateLeft32(*turned^*sum, turn)
			}
		}
	}
	var out []byte
	for i := range w {
		out = binary.LittleEndian.AppendUint32(out, w[i]+start[i])
	}
	return string(out)
}

// mustBlock is a block of which no error is looked for.
func mustBlock(t *testing.T, key string, n int, nonce string) string {
	t.Helper()
	b, err := Block(key, n, nonce)
	if err != nil || len(b) != 64 {
		t.Fatalf("Block of %x, %d, %x: %d bytes, error %v", key, n, nonce, len(b), err)
	}
	return b
}

// mustXor is a text of which no error is looked for.
func mustXor(t *testing.T, key, nonce, s string) string {
	t.Helper()
	x, err := Xor(key, nonce, s)
	if err != nil || len(x) != len(s) {
		t.Fatalf("Xor of %x, %x and %d bytes: %d bytes, error %v", key, nonce, len(s), len(x), err)
	}
	return x
}

// TestBlockKnown: 2.1, by known blocks, of numbers from 0 to 2^32 - 1.
func TestBlockKnown(t *testing.T) {
	for _, k := range known {
		key, nonce, want := bytesOf(k.key), bytesOf(k.nonce), bytesOf(k.want)
		if got := mustBlock(t, key, k.n, nonce); got != want {
			t.Errorf("Block of %s, %d, %s: %x, not %s", k.key, k.n, k.nonce, got, k.want)
		}
		if held(key, uint32(k.n), nonce) != want {
			t.Errorf("the other way of %s, %d, %s is wrong", k.key, k.n, k.nonce)
		}
	}
}

// TestBlockDrawn: 2.1, of many keys, numbers and nonces, and of those that differ in one bit.
func TestBlockDrawn(t *testing.T) {
	numbers := []int{0, 1, 2, 255, 256, 65535, 65536, 1<<24 - 1, 1 << 24, 1<<31 - 1, 1 << 31, 1<<32 - 2, 1<<32 - 1}
	for seed := range 200 {
		key, nonce, n := drawn(seed, 32), drawn(1000+seed, 12), numbers[seed%len(numbers)]
		if got := mustBlock(t, key, n, nonce); got != held(key, uint32(n), nonce) {
			t.Errorf("Block of %x, %d, %x: %x", key, n, nonce, got)
		}
	}
	for bit := range 8 * 32 {
		key := []byte(bytesOf(zeros))
		key[bit/8] ^= 1 << (bit % 8)
		nonce := []byte(bytesOf(nine))
		nonce[bit/8%12] ^= 1 << (bit % 8)
		n := 1 << (bit % 32)
		if got := mustBlock(t, string(key), n, string(nonce)); got != held(string(key), uint32(n), string(nonce)) {
			t.Errorf("Block of %x, %d, %x: %x", key, n, nonce, got)
		}
	}
}

// TestNoBlockLikeAnother: a bit of a key, of a number or of a nonce makes another block.
func TestNoBlockLikeAnother(t *testing.T) {
	seen := map[string]int{}
	see := func(what int, block string) {
		if other, ok := seen[block]; ok {
			t.Errorf("blocks %d and %d are alike", other, what)
		}
		seen[block] = what
	}
	see(0, mustBlock(t, bytesOf(rising), 0, bytesOf(nine)))
	for bit := range 8 * 32 {
		key := []byte(bytesOf(rising))
		key[bit/8] ^= 1 << (bit % 8)
		see(1000+bit, mustBlock(t, string(key), 0, bytesOf(nine)))
	}
	for bit := range 32 {
		see(2000+bit, mustBlock(t, bytesOf(rising), 1<<bit, bytesOf(nine)))
	}
	for bit := range 8 * 12 {
		nonce := []byte(bytesOf(nine))
		nonce[bit/8] ^= 1 << (bit % 8)
		see(3000+bit, mustBlock(t, bytesOf(rising), 0, string(nonce)))
	}
}

// TestBlockNumbers: 2.1, ErrArg of every number that is not from 0 to 2^32 - 1, and nothing beside it.
func TestBlockNumbers(t *testing.T) {
	key, nonce := bytesOf(rising), bytesOf(nine)
	for _, n := range []int{-1, -2, -64, -1 << 31, -1<<31 - 1, -1<<32 + 1, -1 << 32, math.MinInt64, math.MinInt64 + 1, 1 << 32, 1<<32 + 1, 1<<33 - 1, 1 << 40, math.MaxInt64} {
		if b, err := Block(key, n, nonce); b != "" || err != api.ErrArg {
			t.Errorf("Block of number %d: %x, error %v", n, b, err)
		}
	}
}

// TestSizes: 2.1, ErrArg of every key that has not 32 bytes and every nonce that has not 12, and nothing beside it (P2).
func TestSizes(t *testing.T) {
	for size := range 140 {
		long := drawn(size, size)
		for _, c := range []struct {
			key, nonce string
			right      bool
		}{
			{long, bytesOf(nine), size == 32},
			{bytesOf(rising), long, size == 12},
			{long, long, false},
		} {
			for _, n := range []int{0, 1, 1<<32 - 1} {
				b, err := Block(c.key, n, c.nonce)
				if right := err == nil && len(b) == 64; right != c.right || !right && (b != "" || err != api.ErrArg) {
					t.Errorf("Block of a key of %d bytes, number %d, a nonce of %d: %x, error %v", len(c.key), n, len(c.nonce), b, err)
				}
			}
			for _, s := range []string{"", "a", strings.Repeat("a", 64), strings.Repeat("a", 200)} {
				x, err := Xor(c.key, c.nonce, s)
				if right := err == nil && len(x) == len(s); right != c.right || !c.right && (x != "" || err != api.ErrArg) {
					t.Errorf("Xor of a key of %d bytes, a nonce of %d, a text of %d: %x, error %v", len(c.key), len(c.nonce), len(s), x, err)
				}
			}
		}
	}
}

// TestAllWrong: ErrArg, too, where all is wrong.
func TestAllWrong(t *testing.T) {
	if b, err := Block("", -1, ""); b != "" || err != api.ErrArg {
		t.Errorf("Block: %x, error %v", b, err)
	}
	if x, err := Xor("", "", ""); x != "" || err != api.ErrArg {
		t.Errorf("Xor: %x, error %v", x, err)
	}
	// Sizes are counted in bytes (P5): 32 letters of two bytes each are too many.
	if x, err := Xor(strings.Repeat("ä", 32), strings.Repeat("ä", 12), "a"); x != "" || err != api.ErrArg {
		t.Errorf("Xor of letters: %x, error %v", x, err)
	}
	if x, err := Xor(strings.Repeat("ä", 16), strings.Repeat("ä", 6), "a"); len(x) != 1 || err != nil {
		t.Errorf("Xor of half as many letters: %x, error %v", x, err)
	}
}

// TestXorKnown: 2.1, by the text of RFC 8439, 2.4.2.
func TestXorKnown(t *testing.T) {
	const text = "Ladies and Gentlemen of the class of '99: If I could offer you only one tip for the future, sunscreen would be it."
	const want = "6e2e359a2568f98041ba0728dd0d6981e97e7aec1d4360c20a27afccfd9fae0bf91b65c5524733ab8f593dabcd62b3571639d624e65152ab8f530c359f0861d807ca0dbf500d6a6156a38e088a22b65e52bc514d16ccf806818ce91ab77937365af90bbf74a35be6b40b8eedf2785e42874d"
	key, nonce := bytesOf(rising), bytesOf("000000000000004a00000000")
	if got := mustXor(t, key, nonce, text); got != bytesOf(want) {
		t.Errorf("%x, not %s", got, want)
	}
	if back := mustXor(t, key, nonce, bytesOf(want)); back != text {
		t.Errorf("once again: %q", back)
	}
}

// TestXorLengths: 2.1, byte by byte, of texts that end about the end of a block, of none, of one and of several blocks.
func TestXorLengths(t *testing.T) {
	for size := range 5*64 + 2 {
		key, nonce := drawn(size, 32), drawn(1000+size, 12)
		for _, s := range []string{drawn(2000+size, size), strings.Repeat("\x00", size), strings.Repeat("\xff", size)} {
			got := mustXor(t, key, nonce, s)
			for i := range len(s) {
				if want := s[i] ^ held(key, uint32(1+i/64), nonce)[i%64]; got[i] != want {
					t.Fatalf("of %d bytes, byte %d: %x, not %x", size, i, got[i], want)
				}
			}
		}
	}
}

// TestXorIsOfBlocks: 2.1, a text of noughts is the blocks from number 1 on, also where their numbers have more than one byte.
func TestXorIsOfBlocks(t *testing.T) {
	key, nonce := drawn(1, 32), drawn(2, 12)
	all := mustXor(t, key, nonce, strings.Repeat("\x00", 64*65538))
	for _, n := range []int{1, 2, 3, 255, 256, 257, 512, 65535, 65536, 65537, 65538} {
		if got, want := all[64*(n-1):64*n], mustBlock(t, key, n, nonce); got != want {
			t.Errorf("block %d: %x, not %x", n, got, want)
		}
	}
}

// TestXorTwice: once and once again is nothing.
func TestXorTwice(t *testing.T) {
	for _, size := range []int{0, 1, 63, 64, 65, 127, 128, 129, 500, api.MaxText} {
		key, nonce, s := drawn(size, 32), drawn(3000+size, 12), drawn(4000+size, size)
		once := mustXor(t, key, nonce, s)
		if size > 8 && once == s {
			t.Errorf("%d bytes are as they were after once", size)
		}
		if mustXor(t, key, nonce, once) != s {
			t.Errorf("%d bytes are other ones after once and once again", size)
		}
	}
}

// TestAgain: P4, an answer hangs on its arguments alone, whatever was asked between.
func TestAgain(t *testing.T) {
	ask := func(i int) string {
		key, nonce := drawn(i, 32), drawn(i, 12)
		b, errBlock := Block(key, i-3, nonce)
		x, errXor := Xor(key, nonce, drawn(i, i))
		if (errBlock != nil) != (i < 3) || errXor != nil {
			t.Errorf("of %d: errors %v and %v", i, errBlock, errXor)
		}
		return b + x
	}
	var first []string
	for i := range 130 {
		first = append(first, ask(i))
	}
	for i := 129; i >= 0; i-- {
		if ask(i) != first[i] {
			t.Errorf("of %d an answer is another one the second time", i)
		}
	}
}
