package end

import (
	"fmt"
	"math/rand"
	"slices"
	"strings"
	"testing"

	"muleteer/api"
	"muleteer/pkt"
	"muleteer/valid"
)

// T5: what is refused, dropped or answered by a Sync changes nothing.
func TestWhatIsNotValidChangesNothing(t *testing.T) {
	seen := map[int]int{}
	for seed := range int64(300) {
		r := rand.New(rand.NewSource(seed))
		s := setup(seed%2 == 0, [][]int{{2}, {3}, {3, 2}}[r.Intn(3)]...)
		x := &script{r: r, e: New(s), m: reflect(s)}
		for range 120 {
			x.step(t)
			for range 3 {
				b := x.packet()
				if r.Intn(3) == 0 {
					b = spoil(b, r.Intn(8*len(b)))
				}
				seen[holdT5(t, x.e, x.now+int64(r.Intn(3)), b)]++
			}
			// The mirror has not seen these.
			x.m.dropped, x.m.gss, x.m.nxt = x.e.dropped, x.e.view.Gss, x.e.next
			x.m.now, x.m.syncs = x.e.now, nil
			for _, until := range x.e.syncs {
				x.m.syncs = append(x.m.syncs, until-1000000)
			}
		}
	}
	if seen[0] < 1000 || seen[valid.Sync] < 1000 || seen[valid.Drop] < 1000 {
		t.Errorf("too few that are not valid: %v", seen)
	}
}

// holdT5 hands b to e, if it is not good, and answers what it is: 0 are bytes that are none.
func holdT5(t *testing.T, e *End, now int64, b string) int {
	t.Helper()
	before := snap(e)
	verdict := 0
	p, errno := pkt.Get(b)
	if errno == api.OK {
		verdict = valid.Check(e.View(), p)
	}
	if verdict == valid.Good {
		return valid.Good
	}
	l := e.Recv(now, b)
	after := snap(e)
	if verdict == valid.Sync {
		before.view.Gss = after.view.Gss
		want := before.dropped
		if after.dropped != want || len(l) > 1 || len(l) == 1 && (first(t, l).Head.Type != api.TSync || len(first(t, l).Opts) != 0) {
			t.Errorf("T5: a Sync: %s, Dropped %d", show(l), after.dropped)
		}
	} else {
		before.dropped++
		if len(l) != 0 {
			t.Errorf("T5: what goes nowhere is answered: %s", show(l))
		}
	}
	if after != before {
		t.Errorf("T5: %s: %v, not %v", tellAny(b), after, before)
	}
	return verdict
}

// net is two ends and the ways between them: ends[i] gets what is on ways[i].
type net struct {
	r      *rand.Rand
	ends   [2]*End
	ways   [2][]string
	handed [2][]string
	// How many that were sent to each end were lost in a row, and how many may be.
	row, most [2]int
	now       int64
}

// join makes ends of s, a client and a server.
func join(seed int64) *net {
	n := &net{r: rand.New(rand.NewSource(seed))}
	ccids := [][]int{{2}, {3}, {2, 3}, {3, 2}}
	windows := []int{32, 33, 100, 1000}
	for i := range 2 {
		s := setup(i == 1, ccids[n.r.Intn(4)]...)
		s.Window = windows[n.r.Intn(4)]
		s.Size = 1 + n.r.Intn(1400)
		if seed%3 == 0 {
			s.Iss = 1<<48 - 1 - uint64(n.r.Intn(20))
		}
		n.ends[i] = New(s)
		n.most[1-i] = min(s.Window, 100)*3/4 - 1
	}
	return n
}

// send lays what end i tells on the way to the other one.
func (n *net) send(i int, l []string) { n.ways[1-i] = append(n.ways[1-i], l...) }

// submit hands a datagram to end i that no other one is like.
func (n *net) submit(i int) {
	d := fmt.Sprintf("%d-%d-%d-", i, len(n.handed[i]), n.now)
	if size := n.ends[i].setup.Size; len(d) > size {
		d = d[:size]
	}
	l, errno := n.ends[i].Submit(n.now, d)
	if errno == api.OK {
		n.handed[i] = append(n.handed[i], d)
	}
	n.send(i, l)
}

// pass lets the first packet come to end i, as it is, spoiled, twice, late, or not at all.
func (n *net) pass(i, how int) {
	if len(n.ways[i]) == 0 {
		return
	}
	b := n.ways[i][0]
	if how != 2 {
		n.ways[i] = n.ways[i][1:]
	}
	if (how == 0 || how == 1) && n.row[i] >= n.most[i] {
		how = 4
	}
	switch how {
	case 0: // lost
		n.row[i]++
		return
	case 1:
		n.row[i]++
		b = spoil(b, n.r.Intn(8*len(b)))
	case 3:
		n.ways[i] = append(n.ways[i], b)
		return
	default:
		n.row[i] = 0
	}
	n.send(i, n.ends[i].Recv(n.now, b))
}

func (n *net) clock(now int64) {
	n.now = max(n.now, now)
	for i, e := range n.ends {
		n.send(i, e.Clock(n.now))
	}
}

// trouble is some turns in which anything may befall the packets.
func (n *net) trouble(turns, loss int) {
	for range turns {
		i := n.r.Intn(2)
		switch k := n.r.Intn(100); {
		case k < 15:
			n.submit(i)
		case k < 30:
			n.clock(n.now + int64(n.r.Intn(100000)))
		case k < 31:
			n.clock(n.now + int64(n.r.Intn(10000000)))
		case n.r.Intn(100) < loss:
			n.pass(i, n.r.Intn(4))
		default:
			n.pass(i, 4)
		}
	}
}

// calm passes all until there is nothing any more; false: there is no end of it.
func (n *net) calm(turns int) bool {
	for range turns {
		if len(n.ways[0])+len(n.ways[1]) > 0 {
			for i := range n.ways {
				for len(n.ways[i]) > 0 {
					n.pass(i, 4)
				}
			}
			continue
		}
		next, ok := n.due()
		if !ok || next > n.now+70000000 {
			return true
		}
		n.clock(next)
	}
	return false
}

func (n *net) due() (int64, bool) {
	a, is := n.ends[0].Due()
	b, also := n.ends[1].Due()
	if is && also {
		return min(a, b), true
	}
	return max(a, b), is || also
}

// T6: each is taken once at most, and was handed to the other end.
func (n *net) holdTaken(t *testing.T, name string) {
	t.Helper()
	for i, e := range n.ends {
		left := map[string]int{}
		for _, d := range n.handed[1-i] {
			left[d]++
		}
		for _, d := range e.Taken() {
			if left[d]--; left[d] < 0 {
				t.Errorf("T6, %s: end %d has taken %q, which was not handed over, or twice", name, i, d)
			}
		}
	}
}

// What befell two ends comes to an end: they are open, agree, and take all from then on.
func TestTwoEnds(t *testing.T) {
	kinds := map[string]int{}
	for seed := range int64(250) {
		n := join(seed)
		name := fmt.Sprint("net ", seed)
		for i := range 2 {
			if n.r.Intn(2) == 0 {
				n.submit(i)
			}
			l, _ := n.ends[i].Open(0)
			n.send(i, l)
		}
		n.trouble(n.r.Intn(600), n.r.Intn(80))
		n.holdTaken(t, name)
		if !n.calm(3000) {
			t.Fatalf("P24.1, %s: it comes to no end", name)
		}
		n.holdTaken(t, name)
		n.holdAgreed(t, name)
		before := [2]int{len(n.ends[0].Taken()), len(n.ends[1].Taken())}
		// So few that the Acks of what comes meanwhile keep within the least window.
		more := n.r.Intn(7)
		for range more {
			n.submit(0)
			n.submit(1)
		}
		if !n.calm(3000) {
			t.Fatalf("P24.1, %s: it comes to no end", name)
		}
		n.holdTaken(t, name)
		for i, e := range n.ends {
			if got := e.Taken()[before[i]:]; !slices.Equal(got, lastOf(n.handed[1-i], more)) || e.Waiting() != 0 {
				t.Errorf("P24.1, %s: end %d has taken %d of %d", name, i, len(got), more)
			}
			kinds[e.Mine(api.FCcid)]++
		}
	}
	if kinds["\x02"] < 50 || kinds["\x03"] < 50 {
		t.Errorf("too few of a kind: %v", kinds)
	}
}

func lastOf(l []string, n int) []string { return l[len(l)-n:] }

func (n *net) holdAgreed(t *testing.T, name string) {
	t.Helper()
	for i, e := range n.ends {
		if e.State() != api.SOpen || e.Waiting() != 0 {
			t.Errorf("P24.1, %s: end %d: state %d, Waiting %d", name, i, e.State(), e.Waiting())
		}
		for _, f := range []int{api.FCcid, api.FWindow, api.FVector, api.FCover} {
			if e.Mine(f) != n.ends[1-i].Theirs(f) {
				t.Errorf("P24.1, %s: end %d: Mine of %d is %x, and Theirs %x", name, i, f, e.Mine(f), n.ends[1-i].Theirs(f))
			}
		}
	}
}

// P0.5: two ends that are told the same answer the same.
func TestSameCallsSameAnswers(t *testing.T) {
	for seed := range int64(40) {
		r := rand.New(rand.NewSource(seed))
		s := setup(seed%2 == 0, 3, 2)
		x := &script{r: r, e: New(s), m: reflect(s)}
		twin := New(s)
		New(setup(true, 2)).Open(7)
		for range 200 {
			x.pass()
			b := x.packet()
			calls := []func(e *End) []string{
				func(e *End) []string { l, _ := e.Open(x.now); return l },
				func(e *End) []string { l, _ := e.Submit(x.now, "twins"); return l },
				func(e *End) []string { return e.Clock(x.now) },
				func(e *End) []string { return e.Recv(x.now, b) },
				func(e *End) []string { return e.Recv(x.now, b) },
				func(e *End) []string { return e.Recv(x.now, b) },
			}
			call := calls[r.Intn(len(calls))]
			one := call(x.e)
			for range r.Intn(3) {
				// Who asks changes nothing.
				snap(twin)
			}
			other := call(twin)
			if !slices.Equal(one, other) || snap(x.e) != snap(twin) {
				t.Fatalf("P0.5: %s, %s", show(one), show(other))
			}
			if len(one) > 0 {
				one[0] = strings.Repeat("mine", 3)
			}
		}
	}
}
