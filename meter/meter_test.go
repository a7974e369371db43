package meter

import (
	"crypto/sha256"
	"encoding/binary"
	"encoding/hex"
	"math"
	"strings"
	"testing"

	"saltern/api"
	"saltern/plain"
)

// The heads are given: this does not build with others.
var (
	_ func(*Counter) int                 = (*Counter).Get
	_ func(*Counter, int) error          = (*Counter).Raise
	_ func(string, byte) (string, error) = Key
)

// known are keys, in hexadecimal digits, that another program made by the document's words.
var known = []struct{ secret, blocks, tables string }{
	{"0123456789abcdef", "0203b032a893cfd7f6854c05697214fd6b2f6759305224e369dc41fca3fbfdf6", "a910b58a2b339a72f72a4a92b4f094ba409264fb1c1d3499190befd1af1e53fb"},
	{strings.Repeat("\x00", 16), "2e3dcfba9b0ae596b1f8618d1cc46477585bf00cd94cce482f1309cdd5ad58bb", "54cbbc688762fe8b9788da1e58151d6d509b3a5f9542b9c083cc6259fa72ff81"},
	{strings.Repeat("\xff", 16), "fece9fc3ac3df36120181643c33dcdfe891595897cd0a59d7232c348db794ebf", "24f8a1e0fb8479004bddadb70c82ce78ef84d67b8e1c2599826df92b8bc81ccc"},
	{"0123456789abcde\n", "626680b7481ba235428f04de21b12e14fe70c3e9fb76b3af7a34e37b0804833a", "f1f3b21395b4f1b20923a7e5538a0606ce9387dd3c052e88f18f71925f9491fa"},
	{"\xf0\xf1\xf2\xf3\xf4\xf5\xf6\xf7\xf8\xf9\xfa\xfb\xfc\xfd\xfe\xff", "ea3b4dbfdda43353f081689f2cf44a4dbfd96b637b1a7ad86d4fece6ad3fb8fd", "32e24721ab291767ee0ef0d88a3793ba5422cdfb84b9bdd335150d9e44029393"},
}

// held is a key made another way, from the library's SHA-256.
func held(secret, word string) string {
	all := []byte{'k'}
	for _, part := range []string{secret, word} {
		all = binary.BigEndian.AppendUint64(all, uint64(len(part)))
		all = append(all, part...)
	}
	mark := sha256.Sum256(all)
	key := sha256.Sum256(mark[:16])
	return string(key[:])
}

// drawn is a text of so many bytes, few of them alike, many of them no UTF-8.
func drawn(seed, size int) string {
	out := make([]byte, size)
	x := uint32(seed)*2654435761 + 1
	for i := range out {
		x = x*1664525 + 1013904223
		out[i] = byte(x >> 24)
	}
	return string(out)
}

// must holds an error to be the one that is asked for (of OK: nil), without a place.
func must(t *testing.T, what string, err error, want api.Errno) {
	t.Helper()
	if e, place := plain.Place(err); e != want || place != -1 || (err == nil) != (want == api.OK) {
		t.Errorf("%s: error %v (place %d), not %v", what, err, place, want)
	}
}

// raised raises a counter, and holds it to the error that is asked for, and to how far it is then, asked twice.
func raised(t *testing.T, c *Counter, n int, want api.Errno, at int) {
	t.Helper()
	must(t, "Raise", c.Raise(n), want)
	for range 2 {
		if got := c.Get(); got != at {
			t.Errorf("after Raise(%d) it is at %d, not %d", n, got, at)
		}
	}
}

// refused holds Key to an error, and to no key beside it (P2).
func refused(t *testing.T, secret string, use byte, want api.Errno) {
	t.Helper()
	key, err := Key(secret, use)
	must(t, "Key", err, want)
	if key != "" {
		t.Errorf("Key of %q and use %d: %x beside an error", secret, use, key)
	}
}

// TestZeroValue: 4.1, a counter's zero value is at 0, however it was made, and asking it changes nothing.
func TestZeroValue(t *testing.T) {
	var one Counter
	var list [3]Counter
	for _, c := range []*Counter{&one, new(Counter), {}, &list[2]} {
		for range 3 {
			if got := c.Get(); got != 0 {
				t.Errorf("it is at %d, not 0", got)
			}
		}
		raised(t, c, 0, api.ErrOrder, 0)
		raised(t, c, 1, api.OK, 1)
	}
}

// TestRise: 4.1, a counter is at a number that is above it, be it the next one or far off.
func TestRise(t *testing.T) {
	var c Counter
	for _, n := range []int{1, 2, 3, 10, 255, 256, 65536, 1<<31 - 1, 1 << 31, 1<<32 - 1, 1 << 32, 1<<32 + 1, 1 << 53, 1<<53 + 1, math.MaxInt - 1, math.MaxInt} {
		raised(t, &c, n, api.OK, n)
	}
}

// TestStayOrFall: 4.1, ErrOrder of the number that it is at, and of each below; it stays where it is, and rises again.
func TestStayOrFall(t *testing.T) {
	var c Counter
	for _, at := range []int{1, 7, 8, 1 << 31, 1 << 32, 1<<53 + 1, math.MaxInt - 1} {
		raised(t, &c, at, api.OK, at)
		for _, n := range []int{at, at - 1, at / 2, 1, 0, -1, -at, -at - 1, math.MinInt} {
			raised(t, &c, n, api.ErrOrder, at)
		}
	}
}

// TestBelowZero: 4.1, a counter at 0 never goes below it.
func TestBelowZero(t *testing.T) {
	var c Counter
	for _, n := range []int{-1, -2, -1 << 31, -1<<31 - 1, -1 << 32, math.MinInt + 1, math.MinInt} {
		raised(t, &c, n, api.ErrOrder, 0)
	}
	raised(t, &c, 2, api.OK, 2)
	raised(t, &c, -3, api.ErrOrder, 2)
}

// TestGreatest: 4.1, from the greatest number there is no way on, nor round to the least.
func TestGreatest(t *testing.T) {
	var c Counter
	raised(t, &c, math.MinInt, api.ErrOrder, 0)
	raised(t, &c, math.MaxInt, api.OK, math.MaxInt)
	for _, n := range []int{math.MaxInt, math.MaxInt - 1, 1, 0, -1, math.MinInt + 1, math.MinInt} {
		raised(t, &c, n, api.ErrOrder, math.MaxInt)
	}
}

// TestNeverBack: 4.1, whatever is told, a counter is at the greatest number that was told, or at 0.
func TestNeverBack(t *testing.T) {
	for seed := range 100 {
		var c Counter
		most := 0
		for _, b := range []byte(drawn(seed, 200)) {
			n := (int(b) - 100) << (seed % 50)
			want := api.ErrOrder
			if n > most {
				most, want = n, api.OK
			}
			raised(t, &c, n, want, most)
		}
	}
}

// TestCountersApart: P1, two that have one counter see what is done to it; P4, another one does not.
func TestCountersApart(t *testing.T) {
	var c, other Counter
	same := &c
	raised(t, &c, 5, api.OK, 5)
	raised(t, same, 5, api.ErrOrder, 5)
	raised(t, same, 6, api.OK, 6)
	if c.Get() != 6 || other.Get() != 0 {
		t.Errorf("they are at %d and %d, not 6 and 0", c.Get(), other.Get())
	}
	raised(t, &other, 1, api.OK, 1)
	raised(t, &c, 6, api.ErrOrder, 6)
}

// TestNil: P1, no call panics; a counter that is nil answers as a zero value, and keeps nothing.
func TestNil(t *testing.T) {
	var c *Counter
	raised(t, c, -1, api.ErrOrder, 0)
	raised(t, c, 0, api.ErrOrder, 0)
	raised(t, c, 1, api.OK, 0)
}

// TestKeyKnown: 4.1, by known keys.
func TestKeyKnown(t *testing.T) {
	for _, k := range known {
		for use, want := range map[byte]string{'b': k.blocks, 't': k.tables} {
			key, err := Key(k.secret, use)
			must(t, "Key", err, api.OK)
			if got := hex.EncodeToString([]byte(key)); got != want {
				t.Errorf("Key of %q for %c: %s, not %s", k.secret, use, got, want)
			}
		}
		if hex.EncodeToString([]byte(held(k.secret, "blocks"))) != k.blocks {
			t.Errorf("the other way of %q is wrong", k.secret)
		}
	}
}

// TestKeyDrawn: 4.1, of many secrets, and no key is like another one: a bit of a secret, or another use, makes another.
func TestKeyDrawn(t *testing.T) {
	secrets := []string{strings.Repeat("ä", 8), "                ", "blocks\x00\x00\x00\x00\x00\x00\x00\x00\x00\x06"}
	for seed := range 200 {
		secrets = append(secrets, drawn(seed, 16))
	}
	for bit := range 8 * 16 {
		s := []byte(known[0].secret)
		s[bit/8] ^= 1 << (bit % 8)
		secrets = append(secrets, string(s))
	}
	seen := map[string]string{}
	for _, s := range secrets {
		for use, word := range map[byte]string{'b': "blocks", 't': "tables"} {
			key, err := Key(s, use)
			must(t, "Key", err, api.OK)
			if key != held(s, word) || len(key) != api.KeySize {
				t.Errorf("Key of %q for %c: %x, not %x", s, use, key, held(s, word))
			}
			if other, ok := seen[key]; ok {
				t.Errorf("the keys of %s and of %q for %c are alike", other, s, use)
			}
			seen[key] = hex.EncodeToString([]byte(s)) + " for " + string(rune(use))
		}
	}
}

// TestSecretSizes: 4.1, ErrArg of every secret that has not 16 bytes; bytes are counted, not letters (P5).
func TestSecretSizes(t *testing.T) {
	for size := range 300 {
		for _, s := range []string{drawn(size, size), strings.Repeat("\x00", size), strings.Repeat("k", size)} {
			for _, use := range []byte("bt") {
				if size != 16 {
					refused(t, s, use, api.ErrArg)
				} else if key, err := Key(s, use); err != nil || len(key) != 32 {
					t.Errorf("Key of %q for %c: %x, error %v", s, use, key, err)
				}
			}
		}
	}
	for _, s := range []string{strings.Repeat("ä", 16), strings.Repeat("a", 1<<16+16), strings.Repeat("a", api.MaxText)} {
		refused(t, s, 'b', api.ErrArg)
	}
}

// TestUses: 4.1, of all 256 uses two have a key, each its own; ErrNone of all others.
func TestUses(t *testing.T) {
	words := map[byte]string{'b': "blocks", 't': "tables"}
	for _, s := range []string{known[0].secret, drawn(1, 16)} {
		for n := range 256 {
			use := byte(n)
			word, ok := words[use]
			if !ok {
				refused(t, s, use, api.ErrNone)
			} else if key, err := Key(s, use); err != nil || key != held(s, word) {
				t.Errorf("Key of %q for %c: %x, error %v", s, use, key, err)
			}
		}
	}
}

// TestSecretFirst: P3, ErrArg comes ahead of ErrNone, where both apply.
func TestSecretFirst(t *testing.T) {
	for _, size := range []int{0, 1, 15, 17, 32} {
		for n := range 256 {
			refused(t, drawn(n, size), byte(n), api.ErrArg)
		}
	}
	for _, use := range []byte("xkBT\x00\xff") {
		refused(t, drawn(1, 16), use, api.ErrNone)
	}
}

// TestAgain: P4, a key hangs on its arguments alone, whatever was asked between.
func TestAgain(t *testing.T) {
	ask := func(i int) string {
		key, err := Key(drawn(i, 15+i%3), "btx"[i/3%3])
		return key + " " + api.Tell(err).Error()
	}
	var first []string
	for i := range 100 {
		first = append(first, ask(i))
	}
	var c Counter
	for i := 99; i >= 0; i-- {
		raised(t, &c, 100-i, api.OK, 100-i)
		if ask(i) != first[i] {
			t.Errorf("of %d an answer is another one the second time", i)
		}
	}
}
