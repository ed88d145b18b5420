package queue

import (
	"fmt"
	"math"
	"math/rand"
	"strings"
	"testing"

	"muleteer/api"
)

// ledger is a second reckoning, from the chapter's words: all that was ever let in, and how many of these went.
type ledger struct {
	most int
	in   []string
	gone int
}

func (l *ledger) put(d string) api.Errno {
	if len(d) > 1400 {
		return api.ErrLarge
	}
	if len(l.in)-l.gone == l.most {
		return api.ErrFull
	}
	l.in = append(l.in, d)
	return api.OK
}

func (l *ledger) first() (string, bool) {
	if l.gone == len(l.in) {
		return "", false
	}
	return l.in[l.gone], true
}

func (l *ledger) take() (string, bool) {
	d, ok := l.first()
	if ok {
		l.gone++
	}
	return d, ok
}

// told is what the three that only ask tell.
func (l *ledger) told() string {
	d, ok := l.first()
	return tell(d, ok, len(l.in)-l.gone, len(strings.Join(l.in[l.gone:], "")))
}

func told(q *Queue) string {
	d, ok := q.First()
	return tell(d, ok, q.Len(), q.Bytes())
}

func tell(d string, ok bool, count, bytes int) string {
	return fmt.Sprintf("%q %v %d %d", d, ok, count, bytes)
}

// of has the texts, put one behind the other.
func of(t *testing.T, most int, ds ...string) *Queue {
	t.Helper()
	q := New(most)
	for k, d := range ds {
		if errno := q.Put(d); errno != api.OK {
			t.Fatalf("P21.1: Put %d of %d: %d", k, len(ds), errno)
		}
	}
	return q
}

// empty takes all, which must be the texts.
func empty(t *testing.T, q *Queue, ds ...string) {
	t.Helper()
	for k, want := range ds {
		if d, ok := q.Take(); d != want || !ok {
			t.Errorf("P21.1: Take %d: %q, %v, not %q", k, d, ok, want)
		}
	}
	for range 3 {
		if d, ok := q.Take(); d != "" || ok {
			t.Errorf("P21.1: Take of none: %q, %v", d, ok)
		}
		if got := told(q); got != `"" false 0 0` {
			t.Errorf("P21.1: none is left, and it tells %s", got)
		}
	}
}

func long(n int) string {
	return strings.Repeat("x", n)
}

// numbered are n texts, each unlike the others, of lengths that go up and down.
func numbered(n int) []string {
	var ds []string
	for k := range n {
		ds = append(ds, fmt.Sprint(k)+long(k*37%100))
	}
	return ds
}

func TestNew(t *testing.T) {
	sizes := []int{math.MinInt, math.MinInt + 1, -1 << 32, 1 << 31, 1 << 32, 1<<32 + 1, 1<<32 + 50, math.MaxInt - 1, math.MaxInt}
	for most := -300; most <= 300; most++ {
		sizes = append(sizes, most)
	}
	for _, most := range sizes {
		q := New(most)
		if (q != nil) != (1 <= most && most <= 50) {
			t.Errorf("P21.1: New(%d) is nil: %v", most, q == nil)
		}
		if q != nil {
			empty(t, q)
		}
	}
}

func TestOneAlone(t *testing.T) {
	for most := 1; most <= 50; most++ {
		q := of(t, most, "abc")
		if got := told(q); got != `"abc" true 1 3` {
			t.Errorf("P21.1: New(%d), one is there: %s", most, got)
		}
		empty(t, q, "abc")
	}
}

func TestEldestFirst(t *testing.T) {
	q := of(t, 4, "b", "a", "c")
	for _, x := range []struct{ take, told string }{
		{"b", `"a" true 2 2`},
		{"a", `"c" true 1 1`},
		{"c", `"" false 0 0`},
	} {
		if d, ok := q.Take(); d != x.take || !ok || told(q) != x.told {
			t.Errorf("P21.1: Take %q, %v, then %s", d, ok, told(q))
		}
	}
	empty(t, of(t, 5, "a", "a", "b", "a", "a"), "a", "a", "b", "a", "a")
}

func TestPutBehind(t *testing.T) {
	q := of(t, 3, "a", "b", "c")
	q.Take()
	q.Put("d")
	q.Take()
	q.Put("e")
	if got := told(q); got != `"c" true 3 3` {
		t.Errorf("P21.1: %s", got)
	}
	empty(t, q, "c", "d", "e")
	// It serves on behind having been empty.
	q.Put("f")
	q.Put("g")
	empty(t, q, "f", "g")
}

func TestFirstStays(t *testing.T) {
	q := of(t, 2, "ab", "cde")
	for range 5 {
		if d, ok := q.First(); d != "ab" || !ok || q.Len() != 2 || q.Bytes() != 5 {
			t.Errorf("P21.1: First %q, %v of %d, %d bytes", d, ok, q.Len(), q.Bytes())
		}
	}
	empty(t, q, "ab", "cde")
}

// A text without a byte is one, too.
func TestEmptyText(t *testing.T) {
	q := of(t, 3, "", "a", "")
	if got := told(q); got != `"" true 3 1` {
		t.Errorf("P21.1: empty texts: %s", got)
	}
	if errno := q.Put(""); errno != api.ErrFull {
		t.Errorf("P21.1: an empty text where three are: %d", errno)
	}
	empty(t, q, "", "a", "")
	q = of(t, 50, make([]string, 50)...)
	if got := told(q); got != `"" true 50 0` {
		t.Errorf("P21.1: fifty empty texts: %s", got)
	}
	empty(t, q, make([]string, 50)...)
}

func TestLarge(t *testing.T) {
	for _, n := range []int{0, 1, 255, 256, 1023, 1024, 1398, 1399, 1400, 1401, 1402, 1500, 2500, 2501, 65535, 65536, 65537, 65536 + 1400, 1 << 20} {
		q, want, count, bytes := New(2), api.OK, 1, n
		if n > 1400 {
			want, count, bytes = api.ErrLarge, 0, 0
		}
		if errno := q.Put(long(n)); errno != want || q.Len() != count || q.Bytes() != bytes {
			t.Errorf("P21.1: Put of %d bytes: %d, then %d of %d bytes", n, errno, q.Len(), q.Bytes())
		}
		if d, ok := q.Take(); d != long(bytes) || ok != (want == api.OK) {
			t.Errorf("P21.1: Put of %d bytes, then Take: %d bytes, %v", n, len(d), ok)
		}
	}
}

// Bytes count, not runes.
func TestLargeByBytes(t *testing.T) {
	for _, x := range []struct {
		d    string
		want api.Errno
	}{
		{strings.Repeat("ä", 700), api.OK},
		{strings.Repeat("ä", 700) + "a", api.ErrLarge},
		{strings.Repeat("ä", 701), api.ErrLarge},
		{strings.Repeat("\xff", 1400), api.OK},
		{strings.Repeat("\xff", 1401), api.ErrLarge},
		{strings.Repeat("\x00", 1400), api.OK},
		{strings.Repeat("\x00", 1401), api.ErrLarge},
	} {
		q := New(1)
		if errno := q.Put(x.d); errno != x.want {
			t.Errorf("P21.1: Put of %d bytes of %q: %d", len(x.d), x.d[:2], errno)
		}
		if x.want == api.OK {
			if q.Bytes() != len(x.d) {
				t.Errorf("P21.1: Bytes %d, not %d", q.Bytes(), len(x.d))
			}
			empty(t, q, x.d)
		}
	}
}

// Any bytes come out as they went in.
func TestAnyBytes(t *testing.T) {
	q := New(1)
	for b := range 256 {
		for _, d := range []string{string([]byte{byte(b)}), string([]byte{byte(b), 0}), string([]byte{0, byte(b)}), "ab" + string([]byte{byte(b)}) + "ab"} {
			if errno := q.Put(d); errno != api.OK {
				t.Errorf("P21.1: Put %q: %d", d, errno)
			}
			if got, want := told(q), tell(d, true, 1, len(d)); got != want {
				t.Errorf("P21.1: %s, not %s", got, want)
			}
			empty(t, q, d)
		}
	}
}

func TestFull(t *testing.T) {
	for most := 1; most <= 50; most++ {
		ds := numbered(most)
		q := of(t, most, ds...)
		full := told(q)
		for _, d := range []string{"", "a", "too many", long(1400)} {
			if errno := q.Put(d); errno != api.ErrFull || told(q) != full {
				t.Errorf("P21.1: %d are there, Put of %d bytes: %d, then %s", most, len(d), errno, told(q))
			}
		}
		// One goes, and one has room, no more.
		q.Take()
		if errno := q.Put("last"); errno != api.OK {
			t.Errorf("P21.1: New(%d), one went: Put %d", most, errno)
		}
		if errno := q.Put("too many"); errno != api.ErrFull {
			t.Errorf("P21.1: New(%d), one went, one came: Put %d", most, errno)
		}
		if q.Len() != most {
			t.Errorf("P21.1: New(%d): Len %d", most, q.Len())
		}
		empty(t, q, append(ds[1:], "last")...)
	}
}

// Not the bytes bound how many there are.
func TestFullOfLarge(t *testing.T) {
	q, ds := New(50), make([]string, 50)
	for k := range ds {
		ds[k] = long(1399) + string(rune('0'+k))
		if errno := q.Put(ds[k]); errno != api.OK || q.Bytes() != 1400*(k+1) || q.Len() != k+1 {
			t.Errorf("P21.1: Put %d: %d, then %d of %d bytes", k, errno, q.Len(), q.Bytes())
		}
	}
	if errno := q.Put("a"); errno != api.ErrFull || q.Bytes() != 70000 {
		t.Errorf("P21.1: one more: %d, then %d bytes", errno, q.Bytes())
	}
	empty(t, q, ds...)
}

func TestLargeAheadOfFull(t *testing.T) {
	for most := 1; most <= 50; most++ {
		ds := numbered(most)
		q := of(t, most, ds...)
		for _, n := range []int{1401, 1402, 5000, 65536} {
			if errno := q.Put(long(n)); errno != api.ErrLarge {
				t.Errorf("P0.2: %d are there, Put of %d bytes: %d, not ErrLarge", most, n, errno)
			}
		}
		if errno := q.Put(long(1400)); errno != api.ErrFull {
			t.Errorf("P0.2: %d are there, Put of 1400 bytes: %d, not ErrFull", most, errno)
		}
		empty(t, q, ds...)
	}
}

func TestRefusedChangesNothing(t *testing.T) {
	q := of(t, 3, "ab", "c")
	for range 60 {
		if errno := q.Put(long(1401)); errno != api.ErrLarge || told(q) != `"ab" true 2 3` {
			t.Fatalf("P21.1: Put of 1401 bytes: %d, then %s", errno, told(q))
		}
	}
	if errno := q.Put("d"); errno != api.OK {
		t.Errorf("P21.1: what was refused takes room: %d", errno)
	}
	for range 60 {
		if errno := q.Put("e"); errno != api.ErrFull || told(q) != `"ab" true 3 4` {
			t.Fatalf("P21.1: Put where three are: %d, then %s", errno, told(q))
		}
	}
	empty(t, q, "ab", "c", "d")
}

func TestBytes(t *testing.T) {
	q, bytes := New(50), 0
	for k, d := range numbered(50) {
		q.Put(d)
		bytes += len(d)
		if q.Bytes() != bytes || q.Len() != k+1 {
			t.Errorf("P21.1: %d were put: %d of %d bytes, not %d", k+1, q.Len(), q.Bytes(), bytes)
		}
	}
	for k, d := range numbered(50) {
		q.Take()
		bytes -= len(d)
		if q.Bytes() != bytes || q.Len() != 49-k {
			t.Errorf("P21.1: %d went: %d of %d bytes, not %d", k+1, q.Len(), q.Bytes(), bytes)
		}
	}
}

// All ways of seven calls on small queues.
func TestShortWays(t *testing.T) {
	calls := []string{"", "a", "bcd", "large", "take"}
	const length = 7
	script := make([]string, length)
	var walk func(k int)
	walk = func(k int) {
		if k < length {
			for _, c := range calls {
				script[k] = c
				walk(k + 1)
			}
			return
		}
		for most := 1; most <= 3; most++ {
			play(t, most, script)
		}
	}
	walk(0)
}

// play makes each text a Put, but "take", and "large", which stands for one of 1,401 bytes.
func play(t *testing.T, most int, script []string) {
	t.Helper()
	q, l := New(most), &ledger{most: most}
	for k, c := range script {
		if c == "take" {
			d, ok := q.Take()
			if want, wantOK := l.take(); d != want || ok != wantOK {
				t.Fatalf("P21.1: New(%d), %q, call %d: Take %q, %v, not %q, %v", most, script, k, d, ok, want, wantOK)
			}
		} else {
			if c == "large" {
				c = large
			}
			if errno, want := q.Put(c), l.put(c); errno != want {
				t.Fatalf("P21.1: New(%d), %q, call %d: Put %d, not %d", most, script, k, errno, want)
			}
		}
	}
	if got, want := told(q), l.told(); got != want {
		t.Fatalf("P21.1: New(%d), %q: %s, not %s", most, script, got, want)
	}
}

var large = long(1401)

// thrownText is mostly short; each has a number of its own, where it has room.
func thrownText(rnd *rand.Rand, k int) string {
	switch rnd.Intn(12) {
	case 0:
		return ""
	case 1:
		return large
	case 2:
		return long(1395+rnd.Intn(10)) + fmt.Sprint(k%10)
	}
	return fmt.Sprint(k) + long(rnd.Intn(200))
}

func TestThrown(t *testing.T) {
	rnd := rand.New(rand.NewSource(21))
	for script := range 300 {
		most := 1 + rnd.Intn(50)
		q, l := New(most), &ledger{most: most}
		filling := true
		for k := range 1000 {
			// Now more come than go, now fewer, so that it is full and empty again and again.
			if rnd.Intn(2*most+1) == 0 {
				filling = !filling
			}
			if (rnd.Intn(10) < 7) == filling {
				d := thrownText(rnd, k)
				if errno, want := q.Put(d), l.put(d); errno != want {
					t.Fatalf("P21.1: script %d, call %d: Put of %d bytes: %d, not %d", script, k, len(d), errno, want)
				}
			} else {
				d, ok := q.Take()
				if want, wantOK := l.take(); d != want || ok != wantOK {
					t.Fatalf("P21.1: script %d, call %d: Take %q, %v, not %q, %v", script, k, d, ok, want, wantOK)
				}
			}
			if got, want := told(q), l.told(); got != want {
				t.Fatalf("P21.1: script %d, call %d: %s, not %s", script, k, got, want)
			}
		}
	}
}

func TestNil(t *testing.T) {
	var none *Queue
	for _, n := range []int{0, 1, 1399, 1400, 1401, 1 << 20} {
		for range 60 {
			if errno := none.Put(long(n)); errno != api.ErrOff {
				t.Errorf("P21.1: nil, Put of %d bytes: %d", n, errno)
			}
		}
		empty(t, none)
	}
}

func TestNotMadeByNew(t *testing.T) {
	var q Queue
	for _, n := range []int{0, 1, 1400, 1401} {
		for range 60 {
			q.Put(long(n))
			q.First()
			q.Take()
			q.Len()
			q.Bytes()
		}
	}
}

func TestApart(t *testing.T) {
	one, other := New(3), New(50)
	for k := range 200 {
		one.Put(fmt.Sprint("one ", k))
		other.Put(fmt.Sprint("other ", k))
		if k < 50 && other.Len() != k+1 {
			t.Fatalf("P0.5: Len %d behind %d", other.Len(), k+1)
		}
		if d, ok := one.Take(); d != fmt.Sprint("one ", k) || !ok {
			t.Fatalf("P0.5: one queue tells of another: %q", d)
		}
	}
	for k := range 50 {
		if d, ok := other.Take(); d != fmt.Sprint("other ", k) || !ok {
			t.Fatalf("P0.5: one queue tells of another: %q", d)
		}
	}
}

func TestAskingChangesNothing(t *testing.T) {
	asked, other := New(20), New(20)
	rnd := rand.New(rand.NewSource(22))
	for k := range 5000 {
		for range 3 {
			if told(asked) != told(asked) {
				t.Fatal("P0.5: asked again, another answer")
			}
		}
		if rnd.Intn(2) == 0 {
			d := thrownText(rnd, k)
			if got, want := asked.Put(d), other.Put(d); got != want {
				t.Fatalf("P0.5: call %d: Put %d, not %d", k, got, want)
			}
			continue
		}
		got, ok := asked.Take()
		if want, wantOK := other.Take(); got != want || ok != wantOK {
			t.Fatalf("P0.5: call %d: Take %q, not %q", k, got, want)
		}
	}
}

// What went is kept nowhere, however many come and go.
func TestKeepsNoMore(t *testing.T) {
	q := New(50)
	for k := range 100000 {
		q.Put(fmt.Sprint(k))
		if k >= 40 {
			q.Take()
		}
	}
	if cap(q.waiting) > 100 {
		t.Errorf("room for %d is kept", cap(q.waiting))
	}
	// The room from its beginning on, also where it would lie ahead of what is left.
	room := q.waiting[:cap(q.waiting)]
	for left := q.Len() - 1; left >= 0; left-- {
		q.Take()
		kept := 0
		for _, d := range room {
			if d != "" {
				kept++
			}
		}
		if kept != left {
			t.Errorf("%d are left, and %d are kept", left, kept)
		}
	}
}
