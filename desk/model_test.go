package desk

import (
	"crypto/sha256"
	"encoding/hex"
	"errors"
	"fmt"
	"math/big"
	"regexp"
	"strings"
	"testing"

	"saltern/api"
	"saltern/files"
	"saltern/meter"
	"saltern/stream"
	"saltern/zone"
)

// twin is a session that was written by the document's words once more, in another way: one expression for all forms, one switch for all lines.
type twin struct {
	d     *zone.Device
	c     *meter.Counter
	key   string
	image api.Image
	f     *files.Files
	err   error // why there are no files
}

// numberForm is a number's; whether it has 64 bits is asked by itself.
const numberForm = `(0|-?[1-9][0-9]*)`

// lineForms has all forms that a line may have.
var lineForms = regexp.MustCompile(`^(?s: *(?:` +
	strings.NewReplacer("T", `([^ ]+)`, "N", numberForm, " ", ` +`).Replace(`(new) T|(put) T N T|(del) T|(get) T|(list)|(flush)|(reclaim)|(count)|(free)|(open)|(fuse) N|(crash) N T|(image)|(lay)|(spoil) N N N|(block) T N|(help)`) +
	`|(sum)((?: +[^ ]+)*)) *)$`)

// parts are a line's words, if it has a form.
func parts(line string) []string {
	// Bytes that are no letters would be of no class: each byte is a letter of its own here.
	var wide []rune
	for _, b := range []byte(line) {
		wide = append(wide, rune(b))
	}
	found := lineForms.FindStringSubmatch(string(wide))
	if found == nil {
		return nil
	}
	var out []string
	for _, part := range found[1:] {
		var narrow []byte
		for _, r := range part {
			narrow = append(narrow, byte(r))
		}
		if len(narrow) > 0 {
			out = append(out, string(narrow))
		}
	}
	return out
}

// num is a number; false: it has more than 64 bits.
func num(word string) (int, bool) {
	n, ok := new(big.Int).SetString(word, 10)
	if !ok || !n.IsInt64() {
		return 0, false
	}
	return int(n.Int64()), true
}

func (m *twin) anew(word string) {
	text := fmt.Sprintf("d%s%s", string([]byte{0, 0, 0, 0, 0, 0, byte(len(word) >> 8), byte(len(word))}), word)
	h := sha256.Sum256([]byte(text))
	m.d, m.c, m.key, m.image = zone.New(), new(meter.Counter), string(h[:16]), api.Image{}
	m.open()
}

func (m *twin) open() error {
	m.f, m.err = files.Open(m.d, m.c, m.key)
	return m.err
}

// line is what a line is answered by.
func (m *twin) line(line string) string {
	if strings.Trim(line, " ") == "" {
		return "ok"
	}
	p := parts(line)
	if p == nil {
		return "error 3"
	}
	told, err := m.do(p)
	if err != nil {
		var e api.Errno
		if !errors.As(err, &e) {
			return "no Errno"
		}
		return fmt.Sprint("error ", int(e))
	}
	return told
}

// numbersOf are a line's numbers; ErrForm: one has more than 64 bits.
func numbersOf(p []string) (n []int, err error) {
	at := map[string][]int{"put": {2}, "fuse": {1}, "crash": {1}, "spoil": {1, 2, 3}, "block": {2}}[p[0]]
	for _, i := range at {
		v, ok := num(p[i])
		if !ok {
			return nil, api.ErrForm
		}
		n = append(n, v)
	}
	return n, nil
}

// do is what a line of a form tells.
func (m *twin) do(p []string) (string, error) {
	n, err := numbersOf(p)
	if err != nil {
		return "", err
	}
	if p[0] == "put" && (n[0] < 0 || n[0] > 1000 || n[0]*len(p[3]) > 4000) {
		return "", api.ErrRange
	}
	switch p[0] {
	case "put", "del", "get", "list", "flush", "reclaim", "count", "free":
		if m.err != nil {
			return "", api.ErrNone
		}
		return m.ask(p, n)
	case "new":
		m.anew(p[1])
	case "open":
		if err := m.open(); err != nil {
			return "", err
		}
		return fmt.Sprint("open ", m.f.Count()), nil
	case "fuse":
		m.d.Fuse(n[0])
	case "crash":
		var keeps [api.Zones]int
		for i := range keeps {
			keeps[i] = n[0]
		}
		var slots []bool
		for _, r := range []rune(p[2]) {
			slots = append(slots, string(r) == "1")
		}
		m.d.Crash(keeps[:], slots)
		if err := m.open(); err != nil {
			return "", err
		}
		return fmt.Sprint("crash ", m.f.Count()), nil
	case "image":
		m.image = m.d.Image()
	case "lay":
		m.d.Lay(m.image)
		m.open()
	case "spoil":
		return m.spoil(n[0], n[1], n[2])
	case "block":
		h := sha256.Sum256([]byte(p[1]))
		s, err := stream.Block(string(h[:]), n[0], strings.Repeat("0", 12))
		return "block " + hex.EncodeToString([]byte(s)), err
	case "sum":
		words := strings.Trim(strings.Join(p[1:], ""), " ")
		h := sha256.Sum256([]byte(regexp.MustCompile(` +`).ReplaceAllString(words, " ")))
		return "sum " + hex.EncodeToString(h[:]), nil
	case "help":
		return helpText, nil
	}
	return p[0], nil
}

// ask is what a line tells that asks files.
func (m *twin) ask(p []string, n []int) (string, error) {
	switch p[0] {
	case "put":
		return "put", m.f.Put(p[1], strings.Repeat(p[3], n[0]))
	case "del":
		return "del", m.f.Del(p[1])
	case "get":
		s, err := m.f.Get(p[1])
		return got(s), err
	case "list":
		told := "list"
		for _, name := range m.f.Names() {
			told += " " + name
		}
		return told, nil
	case "flush":
		err := m.f.Flush()
		return fmt.Sprint("flush ", m.f.Count()), err
	case "reclaim":
		n, ok, err := m.f.Reclaim()
		return fmt.Sprintf("reclaim %d %t", n, ok), err
	case "count":
		return fmt.Sprint("count ", m.f.Count()), nil
	default:
		return fmt.Sprint("free ", m.f.Free()), nil
	}
}

func (m *twin) spoil(zone, block, at int) (string, error) {
	image := m.d.Image()
	if zone < 0 || zone >= api.Zones || block < 0 || block >= len(image.Zones[zone]) || at < 0 || at >= 128 {
		return "", api.ErrRange
	}
	b := []byte(image.Zones[zone][block])
	if b[at]%2 == 0 {
		b[at]++
	} else {
		b[at]--
	}
	image.Zones[zone][block] = string(b)
	m.d.Lay(image)
	m.open()
	return "spoil", nil
}

// twinSession is what the twin answers.
func twinSession(text string) string {
	if len(text) > 20000 {
		return "error 4\n"
	}
	m := &twin{}
	m.anew("")
	told := ""
	text, _ = strings.CutSuffix(text, "\n")
	for _, line := range strings.Split(text, "\n") {
		told += m.line(line) + "\n"
	}
	return told
}

// held holds a session to the twin's, line for line.
func held(t *testing.T, text string) {
	t.Helper()
	a, b := Session(text), twinSession(text)
	if a == b {
		return
	}
	one, two, lines := strings.Split(a, "\n"), strings.Split(b, "\n"), strings.Split(text, "\n")
	for i := range min(len(one), len(two), len(lines)) {
		if one[i] != two[i] {
			t.Fatalf("line %d of %.2000q, %q: %q, and the twin's %q", i, lines, lines[i], one[i], two[i])
		}
	}
	t.Fatalf("%.2000q: %d answers, and the twin's %d", text, len(one), len(two))
}

// die: numbers that look drawn, the same each time.
type die uint64

func (d *die) n(most int) int {
	*d = *d*6364136223846793005 + 1442695040888963407
	return int(uint64(*d>>33) % uint64(most))
}

// of is one of several.
func (d *die) of(l ...string) string { return l[d.n(len(l))] }

func (d *die) name() string {
	return d.of("a", "b", "c", "d", "e", "f", "g", "abcdefgh", "abcdefghi9", "z", "A", "abcdefghijk", "1")
}

// count is a number, mostly one that is of use.
func (d *die) count(most int) string {
	switch d.n(40) {
	case 0:
		return d.of(numbers...)
	case 1:
		return d.of(noNumbers...)
	case 2:
		return fmt.Sprint(d.n(3*most) - most)
	}
	return fmt.Sprint(d.n(most))
}

// line is a drawn line.
func (d *die) line() string {
	switch d.n(24) {
	case 0, 1, 2, 3, 4, 5:
		return "put " + d.name() + " " + d.count(1+d.n(300)) + " " + d.of("x", "y", "zz", "x-y", "é", "\xff", strings.Repeat("q", d.n(90)+1))
	case 6:
		return "del " + d.name()
	case 7, 8:
		return "get " + d.name()
	case 9, 10:
		return d.of("list", "count", "free", "free")
	case 11, 12, 13:
		return "flush"
	case 14:
		return "reclaim"
	case 15:
		return "open"
	case 16:
		return "fuse " + d.count(30)
	case 17, 18:
		return "crash " + d.count(5) + " " + d.of("0", "1", "01", "10", "x", "é1", "1\xff")
	case 19:
		return "image"
	case 20:
		return d.of("lay", "image", "image\nlay", "flush\nimage")
	case 21:
		return d.of("count", "spoil "+d.count(3)+" "+d.count(16)+" "+d.count(128))
	case 22:
		return d.of("block "+d.name()+" "+d.count(9), "sum "+d.name(), "sum", "sum  a "+d.name(), "help")
	}
	return d.of("", " ", "x", "put", "put a", "put a 1 x y", "list a", "lay a", "\t", "crash 1", "spoil 1 1", "fuse", "NEW x", "flush\nflush", "new "+d.name())
}

// session is a drawn session; restless: power is lost, and others lie.
func (d *die) session(restless bool) string {
	var all strings.Builder
	for range d.n(120) {
		line := d.line()
		if !restless && strings.ContainsAny(line[:min(1, len(line))], "scfln") && d.n(8) > 0 {
			line = "put " + d.name() + " " + d.count(200) + " " + d.of("x", "y", "z")
		}
		all.WriteString(d.of("", "", " ") + strings.ReplaceAll(line, " ", d.of(" ", " ", "  ")) + d.of("", "", " ", "   ") + "\n")
	}
	return all.String()[:max(0, all.Len()-d.n(2))]
}

// TestDrawn: drawn sessions, held to a twin's.
func TestDrawn(t *testing.T) {
	d := die(11)
	for i := range 1500 {
		held(t, d.session(i%2 == 0))
	}
}

// FuzzSession: no text is too odd, and the twin answers the same.
func FuzzSession(f *testing.F) {
	d := die(5)
	for range 20 {
		f.Add(d.session(true))
	}
	for _, text := range []string{"", "\n", "\n\n", "sum \xff  \xfe", "put a 1000 xxxx", "crash 1 \xff1", strings.Repeat("x", 20001), strings.Repeat("\n", 20001)} {
		f.Add(text)
	}
	f.Fuzz(func(t *testing.T, text string) { held(t, text) })
}
