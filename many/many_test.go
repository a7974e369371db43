package many

import (
	"fmt"
	"math"
	"runtime"
	"slices"
	"strings"
	"sync"
	"testing"
	"time"

	"saltern/api"
	"saltern/desk"
	"saltern/plain"
)

// The head is given: this does not build with another one.
var _ func([]string, int) ([]string, error) = All

// texts are so many sessions, no two of which are answered alike.
func texts(n int) (out []string) {
	for i := range n {
		text := fmt.Sprintf("put a %d x\nget a\nflush\nsum %d\n", i, i)
		// Some take longer than others, so that they are not done in the order in which they were begun.
		if i%3 == 0 {
			text += strings.Repeat("flush\nimage\nlay\n", 20)
		}
		out = append(out, text)
	}
	return out
}

// each is what sessions answer one by one.
func each(texts []string) (out []string) {
	for _, text := range texts {
		out = append(out, desk.Session(text))
	}
	return out
}

// TestAll: Session of each, in order, however many workers there are.
func TestAll(t *testing.T) {
	for _, n := range []int{0, 1, 2, 3, 15, 16, 17, 49, 50} {
		in := texts(n)
		want := each(in)
		for workers := 1; workers <= 16; workers++ {
			told, err := All(in, workers)
			if err != nil || !slices.Equal(told, want) {
				t.Fatalf("%d texts, %d workers: %v, or an answer is not the session's", n, workers, err)
			}
		}
	}
	if told, err := All(nil, 1); err != nil || len(told) != 0 {
		t.Errorf("no texts: %q, %v", told, err)
	}
}

// TestOdd: what a session answers to odd texts is no error of All.
func TestOdd(t *testing.T) {
	in := []string{"", "\n", strings.Repeat("x", 20001), "x", "\xff", "put a 1 x\nput a 1 x", "", strings.Repeat("\n", 20000), "new x", "fuse 0\nflush"}
	want := each(in)
	if want[2] != "error 4\n" || want[0] != "ok\n" {
		t.Fatalf("sessions are not answered as they must be: %.20q", want)
	}
	for workers := 1; workers <= 16; workers++ {
		told, err := All(in, workers)
		if err != nil || !slices.Equal(told, want) {
			t.Fatalf("%d workers: %v, or an answer is not the session's", workers, err)
		}
	}
}

// TestSame: texts that are the same are answered each for itself.
func TestSame(t *testing.T) {
	in := slices.Repeat([]string{"put a 3 x\nflush\nlist\nfree\nimage\n"}, 50)
	want := each(in[:1])[0]
	told, err := All(in, 16)
	if err != nil || len(told) != 50 {
		t.Fatalf("%d answers, %v", len(told), err)
	}
	for i, s := range told {
		if s != want {
			t.Fatalf("answer %d: %q, not %q", i, s, want)
		}
	}
}

// TestLimit: more than 50 texts, or workers that are not from 1 to 16.
func TestLimit(t *testing.T) {
	for _, c := range []struct {
		texts, workers int
		want           api.Errno
	}{
		{0, 1, api.OK}, {0, 16, api.OK}, {50, 1, api.OK}, {50, 16, api.OK}, {1, 16, api.OK},
		{51, 1, api.ErrLimit}, {51, 16, api.ErrLimit}, {52, 8, api.ErrLimit}, {500, 8, api.ErrLimit},
		{0, 0, api.ErrLimit}, {1, 0, api.ErrLimit}, {50, 0, api.ErrLimit}, {1, -1, api.ErrLimit}, {1, 17, api.ErrLimit}, {50, 17, api.ErrLimit}, {0, 17, api.ErrLimit},
		{51, 0, api.ErrLimit}, {51, 17, api.ErrLimit}, {1, math.MaxInt, api.ErrLimit}, {1, math.MinInt, api.ErrLimit}, {1, 1 << 32, api.ErrLimit}, {1, 1<<32 + 1, api.ErrLimit},
	} {
		told, err := All(make([]string, c.texts), c.workers)
		if e, place := plain.Place(err); e != c.want || place != -1 {
			t.Errorf("%d texts, %d workers: %v (place %d), not %v", c.texts, c.workers, err, place, c.want)
		}
		if c.want != api.OK && told != nil || c.want == api.OK && len(told) != c.texts {
			t.Errorf("%d texts, %d workers: %d answers", c.texts, c.workers, len(told))
		}
	}
}

// TestHanded: the list that is handed in is not written into, nor what stands behind its length; the answer is fresh memory.
func TestHanded(t *testing.T) {
	in := texts(20)
	was := slices.Clone(in)
	told, err := All(in[:10], 4)
	if err != nil || !slices.Equal(in, was) {
		t.Fatalf("%v, or the list was written into", err)
	}
	want := slices.Clone(told)
	clear(told)
	if again, err := All(in[:10], 4); err != nil || !slices.Equal(again, want) || !slices.Equal(in, was) {
		t.Errorf("%v, or the answer was kept", err)
	}
}

// TestJoined: when All has answered, none of its workers goes on.
func TestJoined(t *testing.T) {
	before := runtime.NumGoroutine()
	in := texts(50)
	for workers := 1; workers <= 16; workers++ {
		if _, err := All(in[:workers%5], workers); err != nil {
			t.Fatal(err)
		}
	}
	// A worker that was waited for may need a moment yet to be gone.
	for range 100 {
		if runtime.NumGoroutine() <= before {
			return
		}
		time.Sleep(10 * time.Millisecond)
	}
	t.Errorf("%d goroutines, where there were %d", runtime.NumGoroutine(), before)
}

// TestAtOnce: All may be asked by several at the same time.
func TestAtOnce(t *testing.T) {
	in := texts(12)
	want := each(in)
	var group sync.WaitGroup
	for i := range 8 {
		group.Add(1)
		go func() {
			defer group.Done()
			if told, err := All(in, i+1); err != nil || !slices.Equal(told, want) {
				t.Errorf("%d workers: %v, or an answer is not the session's", i+1, err)
			}
		}()
	}
	group.Wait()
}
