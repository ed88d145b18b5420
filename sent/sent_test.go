package sent

import (
	"fmt"
	"math"
	"math/rand"
	"slices"
	"testing"

	"muleteer/api"
)

const (
	round = 1 << 48
	half  = 1 << 47
)

// told is h with its lists as they are, be they nil or empty.
func told(h Heard) string {
	return fmt.Sprint(h.Got, h.Late, h.Lost, h.Marks, h.Rtt)
}

const nothing = "[] [] [] 0 -1"

// cells has a cell for each pair of a state and a run.
func cells(pairs ...int) []api.Cell {
	var cs []api.Cell
	for pair := range slices.Chunk(pairs, 2) {
		cs = append(cs, api.Cell{State: pair[0], Run: pair[1]})
	}
	return cs
}

// each has a cell for each state.
func each(states ...int) []api.Cell {
	var cs []api.Cell
	for _, s := range states {
		cs = append(cs, api.Cell{State: s, Run: 1})
	}
	return cs
}

// of has the numbers, all put at time 0.
func of(t *testing.T, ns ...uint64) *Sent {
	t.Helper()
	s := New()
	for _, n := range ns {
		if !s.Put(n, 0) {
			t.Fatalf("P10.1: Put %d of %d", n, ns)
		}
	}
	return s
}

// from has count numbers from first on, the kth put at the time k times 10.
func from(t *testing.T, first uint64, count int) *Sent {
	t.Helper()
	s := New()
	for k := range count {
		if !s.Put((first+uint64(k))%round, int64(k)*10) {
			t.Fatalf("P10.1: Put the %dth from %d on", k, first)
		}
	}
	return s
}

// counts is what s tells when it is but asked.
func counts(s *Sent) string {
	n, ok := s.Last()
	return fmt.Sprint(s.Out(), s.Len(), n, ok)
}

// hears asks s for a Hear, and holds what it tells and how many are out then.
func hears(t *testing.T, name string, s *Sent, ack uint64, cs []api.Cell, now int64, want string, out int) {
	t.Helper()
	if got := told(s.Hear(ack, cs, now)); got != want || s.Out() != out {
		t.Fatalf("P10.1, %s: Hear %s, not %s; %d out, not %d", name, got, want, s.Out(), out)
	}
}

func TestNew(t *testing.T) {
	for name, s := range map[string]*Sent{"New": New(), "the zero value": {}} {
		for _, ack := range []uint64{0, 1, half, api.SeqMask, math.MaxUint64} {
			hears(t, name, s, ack, cells(0, 64, 1, 64), 9, nothing, 0)
		}
		if counts(s) != "0 0 0 false" || s.LoseAll() != 0 {
			t.Errorf("P10.1, %s: %s", name, counts(s))
		}
		if !s.Put(0, 0) || counts(s) != "1 1 0 true" {
			t.Errorf("P10.1, %s: Put 0: %s", name, counts(s))
		}
	}
}

func TestNil(t *testing.T) {
	var s *Sent
	for _, n := range []uint64{0, 1, 7, half, api.SeqMask, math.MaxUint64} {
		for _, now := range []int64{math.MinInt64, -1, 0, 1, math.MaxInt64} {
			for _, cs := range [][]api.Cell{nil, {}, cells(0, 1), cells(1, 64), cells(2, 1), cells(0, 0)} {
				if s.Put(n, now) || told(s.Hear(n, cs, now)) != nothing {
					t.Errorf("P10.1: nil of %d, %v, %d", n, cs, now)
				}
			}
		}
	}
	if counts(s) != "0 0 0 false" || s.LoseAll() != 0 {
		t.Errorf("P10.1: nil: %s", counts(s))
	}
}

func TestFirstOfAll(t *testing.T) {
	for _, n := range []uint64{0, 1, 199, 200, half - 1, half, half + 1, api.SeqMask} {
		for _, more := range []uint64{0, round, 5 * round, math.MaxUint64 - round + 1} {
			s := New()
			if !s.Put(n+more, 4) || counts(s) != fmt.Sprint(1, 1, n, true) {
				t.Errorf("P10.1: Put %d: %s", n+more, counts(s))
			}
			hears(t, "rounds in ack", s, n+more, cells(0, 1), 9, fmt.Sprintf("[%d] [] [] 0 5", n), 0)
			hears(t, "got ahead", s, n, cells(0, 1), 9, nothing, 0)
		}
	}
}

// What may follow what: the last one is to be Less.
func TestFollow(t *testing.T) {
	for _, last := range []uint64{0, 1, 500, half - 1, half, half + 3, api.SeqMask} {
		for _, x := range []struct {
			step uint64
			ok   bool
		}{
			{0, false}, {1, true}, {2, true}, {200, true}, {1000, true}, {1 << 40, true},
			{half - 1, true}, {half, true}, {half + 1, false}, {half + 2, false},
			{round - 1000, false}, {round - 2, false}, {round - 1, false},
		} {
			for _, more := range []uint64{0, round, 7 * round} {
				s := of(t, last)
				n := (last+x.step)%round + more
				want := fmt.Sprint(1, 1, last, true)
				if x.ok {
					want = fmt.Sprint(2, 2, n%round, true)
				}
				if s.Put(n, 3) != x.ok || counts(s) != want {
					t.Errorf("P10.1: Put %d behind %d: %s", n, last, counts(s))
				}
			}
		}
	}
}

// The last one holds Put whatever came of it.
func TestFollowWhatIsNotOut(t *testing.T) {
	s := of(t, 5, 9)
	s.LoseAll()
	if s.Put(9, 0) || s.Put(7, 0) || s.Put(5, 0) || counts(s) != "0 2 9 true" {
		t.Errorf("P10.1: Put behind what was lost: %s", counts(s))
	}
	s.Hear(9, cells(0, 5), 0)
	if s.Put(9, 0) || s.Put(7, 0) || s.Put(5, 0) || counts(s) != "0 2 9 true" {
		t.Errorf("P10.1: Put behind what was got: %s", counts(s))
	}
	if !s.Put(10, 0) || counts(s) != "1 3 10 true" {
		t.Errorf("P10.1: Put 10: %s", counts(s))
	}
}

func TestPutNow(t *testing.T) {
	s := New()
	for _, now := range []int64{-1, -2, -1000000, math.MinInt64} {
		if s.Put(7, now) || counts(s) != "0 0 0 false" {
			t.Errorf("P10.1: Put at %d: %s", now, counts(s))
		}
	}
	// The times need not rise.
	for k, now := range []int64{0, math.MaxInt64, 1 << 62, 1, 900, 0} {
		if !s.Put(uint64(k), now) {
			t.Errorf("P10.1: Put at %d", now)
		}
	}
	if s.Put(6, -1) || counts(s) != "6 6 5 true" {
		t.Errorf("P10.1: Put at -1: %s", counts(s))
	}
}

func TestTwoHundred(t *testing.T) {
	for _, first := range []uint64{0, 1, half - 100, round - 100, api.SeqMask} {
		next := (first + 200) % round
		full := func() *Sent { return from(t, first, 200) }
		was := fmt.Sprint(200, 200, (first+199)%round, true)

		s := full()
		if counts(s) != was || s.Put(next, 0) || s.Put((first+900)%round, 0) || counts(s) != was {
			t.Errorf("P10.1: 200, all of them out: %s", counts(s))
		}
		s.Hear((first+199)%round, cells(0, 2), 0)
		if s.Put(next, 0) || s.Out() != 198 || s.Len() != 200 {
			t.Errorf("P10.1: the first one is out, the last two got: %s", counts(s))
		}

		s = full()
		hears(t, "the first one", s, first, cells(0, 1), 50, fmt.Sprintf("[%d] [] [] 0 50", first), 199)
		if s.Put((first+199)%round, 0) || s.Put(first, 0) || s.Put(next, -1) || s.Out() != 199 || s.Len() != 200 {
			t.Errorf("P10.1: 200, and what may not be: %s", counts(s))
		}
		if !s.Put(next, 0) || counts(s) != fmt.Sprint(200, 200, next, true) || s.Put((next+1)%round, 0) {
			t.Errorf("P10.1: the first one goes alone: %s", counts(s))
		}
		hears(t, "the second one stayed", s, (first+1)%round, cells(0, 9), 50, fmt.Sprintf("[%d] [] [] 0 40", (first+1)%round), 199)

		s = full()
		s.Hear((first+3)%round, cells(0, 3), 0)
		if counts(s) != fmt.Sprint(196, 200, (first+199)%round, true) || !s.Put(next, 0) || s.Len() != 200 {
			t.Errorf("P10.1: the first one is lost: %s", counts(s))
		}
		hears(t, "what went is not heard of", s, first, cells(0, 64), 50, nothing, 197)
	}
}

// A Put that may not be lets the first one stay.
func TestFirstStays(t *testing.T) {
	for name, put := range map[string]func(*Sent) bool{
		"the last one again": func(s *Sent) bool { return s.Put(199, 5) },
		"one ahead":          func(s *Sent) bool { return s.Put(150, 5) },
		"half a round on":    func(s *Sent) bool { return s.Put(200+half, 5) },
		"below 0":            func(s *Sent) bool { return s.Put(200, -5) },
	} {
		s := from(t, 0, 200)
		s.LoseAll()
		if put(s) || counts(s) != "0 200 199 true" {
			t.Errorf("P10.1, %s: %s", name, counts(s))
		}
		hears(t, name, s, 0, cells(0, 1), 9, "[] [0] [] 0 -1", 0)
	}
}

func TestManyGo(t *testing.T) {
	s := from(t, 0, 200)
	s.Hear(9, cells(0, 10), 0)
	for n := uint64(200); n < 210; n++ {
		if !s.Put(n, 0) || s.Len() != 200 {
			t.Fatalf("P10.1: Put %d: %s", n, counts(s))
		}
	}
	if s.Put(210, 0) || counts(s) != "200 200 209 true" {
		t.Errorf("P10.1: ten went, and the eleventh is out: %s", counts(s))
	}
	if s.LoseAll() != 200 {
		t.Error("P10.1: LoseAll")
	}
	for n := uint64(210); n < 500; n++ {
		if ok := s.Put(n, 0); ok != (n < 410) {
			t.Fatalf("P10.1: Put %d is %v", n, ok)
		}
	}
	if counts(s) != "200 200 409 true" {
		t.Errorf("P10.1: all went: %s", counts(s))
	}
}

// Each telling of a number in each state.
func TestTellings(t *testing.T) {
	states := map[string]func(*Sent){
		"out":  func(*Sent) {},
		"got":  func(s *Sent) { s.Hear(50, cells(0, 1), 0) },
		"mark": func(s *Sent) { s.Hear(50, cells(1, 1), 0) },
		"lost": func(s *Sent) { s.LoseAll() },
		"late": func(s *Sent) { s.LoseAll(); s.Hear(50, cells(0, 1), 0) },
	}
	for _, x := range []struct {
		state string
		told  int
		want  string
		out   int
	}{
		{"out", api.CGot, "[50] [] [] 0 30", 0}, {"out", api.CMark, "[50] [] [] 1 30", 0}, {"out", api.CLost, nothing, 1},
		{"got", api.CGot, nothing, 0}, {"got", api.CMark, nothing, 0}, {"got", api.CLost, nothing, 0},
		{"mark", api.CGot, nothing, 0}, {"mark", api.CMark, nothing, 0}, {"mark", api.CLost, nothing, 0},
		{"lost", api.CGot, "[] [50] [] 0 -1", 0}, {"lost", api.CMark, "[] [50] [] 1 -1", 0}, {"lost", api.CLost, nothing, 0},
		{"late", api.CGot, nothing, 0}, {"late", api.CMark, nothing, 0}, {"late", api.CLost, nothing, 0},
	} {
		s := New()
		s.Put(50, 20)
		states[x.state](s)
		hears(t, fmt.Sprint(x.state, " told as ", x.told), s, 50, each(x.told), 50, x.want, x.out)
		if s.LoseAll() != x.out {
			t.Errorf("P10.1: %s told as %d: LoseAll", x.state, x.told)
		}
	}
}

func TestMarks(t *testing.T) {
	s := of(t, 1, 2, 3, 4)
	s.LoseAll()
	for n := uint64(5); n < 9; n++ {
		s.Put(n, 0)
	}
	hears(t, "of Got and of Late", s, 8, each(1, 0, 1, 3, 1, 3, 0, 1), 7, "[6 7 8] [1 2 4] [5] 4 7", 0)
	hears(t, "not of what was got ahead", s, 8, cells(1, 8), 7, "[] [3 5] [] 2 -1", 0)
	hears(t, "of nothing any more", s, 8, cells(1, 8), 7, nothing, 0)
	s.Put(12, 0)
	hears(t, "not of what is not kept", s, 20, cells(1, 64), 7, "[12] [] [] 1 7", 0)
}

// Of what is told, just what lies from ack down to the vector's end is heard.
func TestReach(t *testing.T) {
	for _, first := range []uint64{0, 1000, half - 2, half, round - 2, api.SeqMask} {
		at := func(d int) uint64 { return (first + round + uint64(d)) % round }
		for ack := -9; ack < 15; ack++ {
			for run := 1; run < 20; run++ {
				s := of(t, at(0), at(2), at(4))
				var got []uint64
				for _, d := range []int{0, 2, 4} {
					if ack-run < d && d <= ack {
						got = append(got, at(d))
					}
				}
				want := told(Heard{Got: got, Rtt: 6})
				if len(got) == 0 {
					want = nothing
				}
				hears(t, fmt.Sprint("from ", ack, " down ", run), s, at(ack), cells(0, run), 6, want, 3-len(got))
			}
		}
	}
}

// A vector of as many numbers as may be, and acks far off.
func TestFarReach(t *testing.T) {
	for _, first := range []uint64{0, 5000, half, round - 400} {
		for d := uint64(900); d < 1100; d++ {
			s := from(t, first, 1)
			var cs []api.Cell
			for range 15 {
				cs = append(cs, api.Cell{State: api.CLost, Run: 64})
			}
			cs = append(cs, api.Cell{State: api.CGot, Run: 40})
			want, out := nothing, 1
			if 960 <= d && d < 1000 {
				want, out = fmt.Sprintf("[%d] [] [] 0 4", first), 0
			}
			hears(t, fmt.Sprint(d, " below ack"), s, (first+d)%round, cs, 4, want, out)
		}
		for _, d := range []uint64{1 << 24, 1 << 32, half - 1, half, half + 1, half + 999, round - 1<<32, round - 1000, round - 1} {
			s := from(t, first, 1)
			hears(t, fmt.Sprint(d, " below ack"), s, (first+d)%round, slices.Repeat(cells(1, 50), 20), 4, nothing, 1)
		}
	}
}

// Of alike cells, and of many short ones, each tells of its own numbers.
func TestCellByCell(t *testing.T) {
	s := from(t, 10, 9)
	hears(t, "cell by cell", s, 18, cells(3, 1, 0, 1, 0, 1, 3, 2, 1, 1, 1, 2, 3, 1), 100, "[11 12 13 16 17] [] [10] 3 30", 3)
	hears(t, "behind it", s, 19, cells(0, 1, 0, 1), 100, "[18] [] [14 15] 0 20", 0)
}

// Of cells that may not be nothing is heard, and nothing is lost.
func TestBadCells(t *testing.T) {
	long := slices.Repeat(cells(0, 50), 20)
	for name, cs := range map[string][]api.Cell{
		"no such state":           cells(2, 1),
		"a state below 0":         cells(-1, 1),
		"a state above":           cells(4, 1),
		"a run of 0":              cells(0, 0),
		"a run below 0":           cells(0, -1),
		"a run of 65":             cells(0, 65),
		"a huge run":              cells(0, math.MaxInt),
		"a least run":             cells(0, math.MinInt),
		"bad behind good ones":    cells(0, 4, 1, 4, 2, 1),
		"bad ahead of good ones":  cells(0, 0, 0, 8),
		"bad that tells of none":  cells(0, 8, 3, 0),
		"a number more than 1000": append(slices.Clone(long), api.Cell{State: api.CLost, Run: 1}),
		"a long list of none":     slices.Repeat(cells(0, 1), 5000),
	} {
		s := from(t, 10, 8)
		hears(t, name, s, 17, cs, 100, nothing, 8)
		hears(t, name+", as if nothing", s, 17, cells(0, 4), 100, "[14 15 16 17] [] [10 11 12 13] 0 30", 0)
		hears(t, name+", to what is lost", s, 17, cs, 100, nothing, 0)
		if counts(s) != "0 8 17 true" {
			t.Errorf("P10.1, %s: %s", name, counts(s))
		}
	}
	s := from(t, 10, 8)
	hears(t, "just 1000", s, 17, long, 100, "[10 11 12 13 14 15 16 17] [] [] 0 30", 0)
}

func TestNoCells(t *testing.T) {
	for _, cs := range [][]api.Cell{nil, {}} {
		s := from(t, 10, 8)
		hears(t, "no cells", s, 17, cs, 100, nothing, 8)
		hears(t, "lost alone", s, 17, cells(3, 64), 100, nothing, 8)
	}
}

// How many behind it are got until one is lost.
func TestDups(t *testing.T) {
	for _, first := range []uint64{0, 77, half - 3, round - 3, api.SeqMask} {
		at := func(d uint64) uint64 { return (first + d) % round }
		for behind := range 7 {
			s := of(t, first)
			for d := range uint64(behind) {
				s.Put(at(1+d), 5)
			}
			s.Put(at(20), 5)
			var got, lost []uint64
			for d := range behind {
				got = append(got, at(uint64(1+d)))
			}
			if behind >= 3 {
				lost = []uint64{first}
			}
			want := Heard{Got: got, Lost: lost, Rtt: 4}
			if behind == 0 {
				want.Rtt = -1
			}
			hears(t, fmt.Sprint(behind, " behind it"), s, at(19), cells(3, 5, 0, 14), 9, told(want), 2-len(lost))
		}
	}
}

// The three may come one by one, in any order, and stay got ones.
func TestDupsOneByOne(t *testing.T) {
	for _, order := range [][]uint64{{1, 2, 3}, {3, 2, 1}, {2, 3, 1}, {3, 1, 2}, {1, 3, 2}, {2, 1, 3}} {
		s := of(t, 0, 1, 2, 3)
		for k, n := range order {
			lost, out := "[]", 3-k
			if k == 2 {
				lost, out = "[0]", 0
			}
			hears(t, fmt.Sprint(order, k), s, n, cells(k%2, 1), 1, fmt.Sprintf("[%d] [] %s %d 1", n, lost, k%2), out)
		}
	}
}

// Just those that are kept and got count, and just those that lie behind.
func TestDupsOfWhat(t *testing.T) {
	s := of(t, 10, 20, 30, 40, 50)
	hears(t, "what is not kept is none", s, 59, cells(0, 30), 1, "[30 40 50] [] [10 20] 0 1", 0)
	s = of(t, 10, 20, 30, 40, 50)
	hears(t, "those ahead are none", s, 49, cells(0, 40), 1, "[10 20 30 40] [] [] 0 1", 1)
	s = of(t, 10, 20, 30, 40, 50)
	s.LoseAll()
	s.Put(60, 0)
	s.Put(70, 0)
	hears(t, "lost ones are none", s, 70, cells(0, 1), 1, "[70] [] [] 0 1", 1)
	s = of(t, 10)
	s.LoseAll()
	for _, n := range []uint64{11, 12, 13} {
		s.Put(n, 0)
	}
	hears(t, "what is lost is not lost again", s, 13, cells(0, 3), 1, "[11 12 13] [] [] 0 1", 0)
	hears(t, "it comes late, once", s, 13, cells(0, 4), 1, "[] [10] [] 0 -1", 0)
	hears(t, "and then no more", s, 13, cells(0, 4), 1, nothing, 0)
}

// What is out lies behind all that is lost, so what comes late makes nothing else lost.
func TestDupsOfLate(t *testing.T) {
	s := of(t, 9, 10, 11, 12, 13, 14)
	hears(t, "lost at first", s, 14, cells(0, 3), 1, "[12 13 14] [] [9 10 11] 0 1", 0)
	s = of(t, 1, 2, 3, 4)
	s.LoseAll()
	s.Put(5, 0)
	s.Put(6, 0)
	s.Put(7, 0)
	hears(t, "late ones ahead", s, 4, cells(0, 4), 1, "[] [1 2 3 4] [] 0 -1", 3)
	s = of(t, 0)
	s.LoseAll()
	s.Put(1, 0)
	s.Put(2, 0)
	s.LoseAll()
	for n := uint64(3); n < 7; n++ {
		s.Put(n, 0)
	}
	hears(t, "two that were out", s, 6, each(0, 0), 1, "[5 6] [] [] 0 1", 2)
	hears(t, "and one more", s, 4, each(0), 1, "[4] [] [3] 0 1", 0)
	hears(t, "the others late", s, 3, each(0, 3, 1, 0), 1, "[] [0 1 3] [] 1 -1", 0)
}

// All that a Hear tells as got is got ahead of what it makes lost.
func TestFirstGotThenLost(t *testing.T) {
	s := of(t, 1, 2, 3, 4, 5)
	hears(t, "all are got at once", s, 5, cells(0, 5), 1, "[1 2 3 4 5] [] [] 0 1", 0)
	s = of(t, 1, 2, 3, 4, 5)
	hears(t, "told as lost", s, 5, cells(0, 3, 3, 1, 1, 1), 1, "[1 3 4 5] [] [2] 1 1", 0)
}

func TestRtt(t *testing.T) {
	s := from(t, 0, 9)
	hears(t, "the last of Got", s, 5, each(0, 3, 0, 0), 100, "[2 3 5] [] [0 1] 0 50", 4)
	hears(t, "the last of Got, not the last that ever was", s, 4, each(0), 100, "[4] [] [] 0 60", 3)
	hears(t, "not of Late", s, 1, each(0), 100, "[] [1] [] 0 -1", 3)
	hears(t, "just then", s, 6, each(0), 60, "[6] [] [] 0 0", 2)
	hears(t, "0 at least", s, 7, each(0), 69, "[7] [] [] 0 0", 1)
	hears(t, "of Got and Late, of Got", s, 8, each(1, 0, 3, 0, 0, 0, 0, 0, 0), 81, "[8] [0] [] 1 1", 0)
	s = New()
	for n, at := range []int64{500, 200, 400} {
		s.Put(uint64(n), at)
	}
	hears(t, "not the least one", s, 1, cells(0, 2), 1000, "[0 1] [] [] 0 800", 1)
}

// A time above 2^62 counts as 2^62; one below 0 is ahead of all.
func TestTimes(t *testing.T) {
	const top = 1 << 62
	for _, x := range []struct{ at, now, rtt int64 }{
		{0, 0, 0}, {0, 1, 1}, {0, -1, 0}, {0, math.MinInt64, 0}, {7, math.MinInt64, 0}, {7, -5, 0},
		{0, top - 1, top - 1}, {0, top, top}, {0, top + 1, top}, {0, math.MaxInt64, top},
		{1, math.MaxInt64, top - 1}, {5, top + 3, top - 5},
		{top - 1, math.MaxInt64, 1}, {top, top, 0}, {top, math.MaxInt64, 0}, {top + 1, top, 0},
		{top + 1, top + 9, 0}, {top + 9, top - 1, 0}, {math.MaxInt64, math.MaxInt64, 0}, {math.MaxInt64, top - 1, 0},
		{math.MaxInt64, 0, 0}, {math.MaxInt64, -1, 0}, {math.MaxInt64, math.MinInt64, 0}, {top, math.MinInt64, 0},
	} {
		s := New()
		if !s.Put(3, x.at) {
			t.Fatalf("P10.1: Put at %d", x.at)
		}
		hears(t, fmt.Sprintf("sent at %d, heard at %d", x.at, x.now), s, 3, cells(0, 1), x.now, fmt.Sprintf("[3] [] [] 0 %d", x.rtt), 0)
	}
}

func TestLoseAll(t *testing.T) {
	s := from(t, round-3, 7)
	s.Hear(1, each(0, 3, 3, 0), 0)
	if s.LoseAll() != 5 || s.LoseAll() != 0 || counts(s) != "0 7 3 true" {
		t.Errorf("P10.1: LoseAll: %s", counts(s))
	}
	s.Put(4, 0)
	if s.Out() != 1 || s.LoseAll() != 1 || s.Out() != 0 {
		t.Errorf("P10.1: LoseAll again: %s", counts(s))
	}
	hears(t, "rising over the end", s, 4, cells(0, 10), 9, told(Heard{Late: []uint64{round - 3, round - 1, 0, 2, 3, 4}, Rtt: -1}), 0)
	if s.LoseAll() != 0 {
		t.Error("P10.1: LoseAll of got ones")
	}
}

// The lists rise with the numbers, not with their words.
func TestRising(t *testing.T) {
	s := from(t, round-4, 8)
	ahead, mid := []uint64{round - 4, round - 3, 1, 2, 3}, []uint64{round - 2, round - 1, 0}
	hears(t, "Got and Lost", s, 3, cells(0, 3, 3, 3, 0, 2), 100, told(Heard{Got: ahead, Lost: mid, Rtt: 30}), 0)
	hears(t, "Late", s, 3, cells(0, 8), 100, told(Heard{Late: mid, Rtt: -1}), 0)
}

// Steps of up to half a round: what was put later lies behind, wherever it lies on the round.
func TestGreatSteps(t *testing.T) {
	s := of(t, 0, half, half+1, half+2)
	hears(t, "half a round on", s, half+2, cells(0, 3), 1, told(Heard{Got: []uint64{half, half + 1, half + 2}, Lost: []uint64{0}, Rtt: 1}), 0)
	const quarter = 1 << 46
	s = of(t, 5, 5+quarter, 5+2*quarter, 5+3*quarter)
	for k := uint64(3); k > 0; k-- {
		want := Heard{Got: []uint64{5 + k*quarter}, Rtt: 1}
		out := int(k)
		if k == 1 {
			want.Lost, out = []uint64{5}, 0
		}
		hears(t, "a quarter each", s, 5+k*quarter, cells(0, 64), 1, told(want), out)
	}
}

// P0.3: the cells are not changed, and no answer shares memory with anything else.
func TestListsAreApart(t *testing.T) {
	room := slices.Repeat(cells(0, 1), 30)
	cs := room[:8]
	cs[1] = api.Cell{State: api.CLost, Run: 1}
	was := slices.Clone(room)
	s := from(t, 0, 12)
	s.LoseAll()
	for n := uint64(12); n < 20; n++ {
		s.Put(n, 0)
	}
	h := s.Hear(16, cs, 5)
	if !slices.Equal(room, was) {
		t.Error("P0.3: Hear changed its cells")
	}
	again := from(t, 0, 12)
	again.LoseAll()
	for n := uint64(12); n < 20; n++ {
		again.Put(n, 0)
	}
	other := again.Hear(16, cs, 5)
	want := told(other)
	cs[0].State = 2
	for _, list := range [][]uint64{h.Got, h.Late, h.Lost} {
		list = list[:cap(list)]
		for i := range list {
			list[i] = 424242
		}
	}
	if told(other) != want || want != "[12 13 14 16] [9 10 11] [] 0 5" {
		t.Errorf("P0.3: another one's answer: %s", told(other))
	}
	hears(t, "behind that", s, 19, cells(0, 2, 3, 1), 5, "[18 19] [] [15] 0 5", 1)
	hears(t, "behind that", s, 19, cells(0, 3), 5, "[17] [] [] 0 5", 0)
	h = s.Hear(19, cells(0, 20), 5)
	want = told(h)
	for n := uint64(20); n < 600; n++ {
		s.Put(n, 0)
		s.Hear(n, cells(0, 1, 3, 1, 1, 2), 5)
	}
	if told(h) != want || want != "[] [0 1 2 3 4 5 6 7 8 15] [] 0 -1" {
		t.Errorf("P0.3: what was told changed later: %s", told(h))
	}
}

// One list of an answer has no room in common with another one.
func TestListsOfOneAnswer(t *testing.T) {
	s := of(t, 1, 2, 3)
	s.LoseAll()
	for n := uint64(4); n < 12; n++ {
		s.Put(n, 0)
	}
	h := s.Hear(11, cells(0, 5, 3, 3, 0, 3), 5)
	const want = "[7 8 9 10 11] [1 2 3] [4 5 6] 0 5"
	if told(h) != want {
		t.Fatalf("P10.1: %s", told(h))
	}
	for _, list := range [][]uint64{h.Got, h.Late, h.Lost} {
		for i := len(list); i < cap(list); i++ {
			list[:cap(list)][i] = 424242
		}
	}
	if told(h) != want {
		t.Errorf("P0.3: the lists share their room: %s", told(h))
	}
}

func TestAskingChangesNothing(t *testing.T) {
	s := from(t, 10, 8)
	s.Hear(15, cells(0, 2), 5)
	was := counts(s)
	for range 5 {
		s.Out()
		s.Len()
		s.Last()
		s.Hear(17, nil, 5)
		s.Hear(500, cells(0, 64), 5)
		s.Put(17, 5)
	}
	if counts(s) != was {
		t.Errorf("P0.5: %s, not %s", counts(s), was)
	}
	hears(t, "as ahead", s, 17, cells(0, 1), 100, "[17] [] [10 11 12 13] 0 30", 1)
}

func TestTwoAreApart(t *testing.T) {
	a, b := New(), New()
	a.Put(5, 0)
	a.Put(9, 0)
	if counts(b) != "0 0 0 false" || !b.Put(4, 0) || counts(a) != "2 2 9 true" || counts(b) != "1 1 4 true" {
		t.Errorf("P0.5: %s and %s", counts(a), counts(b))
	}
	a.LoseAll()
	if b.Out() != 1 {
		t.Error("P0.5: LoseAll of another one")
	}
}

// ledger is a Sent told by the words alone: the numbers in their order, a letter for what each is, and a walk down from the ack.
type ledger struct {
	order []uint64
	is    map[uint64]byte
	at    map[uint64]int64
	last  uint64
	any   bool
}

func newLedger() *ledger {
	return &ledger{is: map[uint64]byte{}, at: map[uint64]int64{}}
}

func (l *ledger) put(n uint64, now int64) bool {
	n %= round
	way := (n + round - l.last) % round
	switch {
	case now < 0 || l.any && (way == 0 || way > half):
		return false
	case len(l.order) == 200 && l.is[l.order[0]] == 'o':
		return false
	case len(l.order) == 200:
		delete(l.is, l.order[0])
		delete(l.at, l.order[0])
		l.order = l.order[1:]
	}
	l.order, l.is[n], l.at[n], l.last, l.any = append(l.order, n), 'o', now, n, true
	return true
}

func (l *ledger) hear(ack uint64, cs []api.Cell, now int64) Heard {
	h := Heard{Rtt: -1}
	total := 0
	for _, c := range cs {
		if c.State != 0 && c.State != 1 && c.State != 3 || c.Run < 1 || c.Run > 64 {
			return h
		}
		total += c.Run
	}
	if total > 1000 {
		return h
	}
	was, marked := map[uint64]byte{}, map[uint64]int{}
	n := ack % round
	for _, c := range cs {
		for range c.Run {
			if kept, ok := l.is[n]; ok && c.State != 3 {
				was[n], marked[n] = kept, c.State
			}
			n = (n + round - 1) % round
		}
	}
	for _, n := range l.order {
		if was[n] == 'o' {
			h.Got = append(h.Got, n)
			h.Rtt = max(0, now-l.at[n])
		}
		if was[n] == 'l' {
			h.Late = append(h.Late, n)
		}
		if was[n] == 'o' || was[n] == 'l' {
			l.is[n] = 'g'
			h.Marks += marked[n]
		}
	}
	for i, n := range l.order {
		if l.is[n] != 'o' {
			continue
		}
		got := 0
		for _, later := range l.order[i+1:] {
			if l.is[later] == 'g' {
				got++
			}
		}
		if got >= 3 {
			h.Lost = append(h.Lost, n)
		}
	}
	for _, n := range h.Lost {
		l.is[n] = 'l'
	}
	return h
}

func (l *ledger) out() int {
	count := 0
	for _, is := range l.is {
		if is == 'o' {
			count++
		}
	}
	return count
}

func (l *ledger) loseAll() int {
	count := 0
	for n, is := range l.is {
		if is == 'o' {
			l.is[n] = 'l'
			count++
		}
	}
	return count
}

func (l *ledger) counts() string {
	return fmt.Sprint(l.out(), len(l.order), l.last, l.any)
}

// same holds one Hear and what is told behind it against l.
func same(t *testing.T, s *Sent, l *ledger, ack uint64, cs []api.Cell, now int64) {
	t.Helper()
	got, want := told(s.Hear(ack, cs, now)), told(l.hear(ack, cs, now))
	if got != want || counts(s) != l.counts() {
		t.Fatalf("P10.1: Hear of %d, %v, %d: %s, %s, not %s, %s", ack, cs, now, got, counts(s), want, l.counts())
	}
}

// All pairs of vectors over five numbers of which one is not kept, with or without a LoseAll between them.
func TestAllPairs(t *testing.T) {
	vectors := [][]api.Cell{nil}
	for range 6 {
		var longer [][]api.Cell
		for _, v := range vectors {
			for _, state := range []int{0, 1, 3} {
				longer = append(longer, append(slices.Clone(v), api.Cell{State: state, Run: 1}))
			}
		}
		vectors = longer
	}
	for i, a := range vectors {
		for j, b := range vectors {
			if (i+j)%7 > 1 {
				continue
			}
			s, l := New(), newLedger()
			for k, n := range []uint64{round - 3, round - 2, 0, 1, 2} {
				s.Put(n, int64(k))
				l.put(n, int64(k))
			}
			same(t, s, l, 2, a, 9)
			if (i+j)%7 == 1 && s.LoseAll() != l.loseAll() {
				t.Fatalf("P10.1: LoseAll behind %v", a)
			}
			same(t, s, l, 2, b, 9)
		}
	}
}

// throwCells is a vector; now and then one that may not be.
func throwCells(r *rand.Rand) []api.Cell {
	var cs []api.Cell
	most := []int{2, 5, 64}[r.Intn(3)]
	for range r.Intn(20) {
		cs = append(cs, api.Cell{State: []int{0, 0, 1, 3, 3}[r.Intn(5)], Run: 1 + r.Intn(most)})
	}
	if len(cs) > 0 && r.Intn(20) == 0 {
		bad := []api.Cell{{State: 2, Run: 1}, {State: 0, Run: 0}, {State: 1, Run: 65}, {State: 4, Run: 3}, {State: -1, Run: 3}, {State: 3, Run: -1}}
		cs[r.Intn(len(cs))] = bad[r.Intn(len(bad))]
	}
	return cs
}

func TestThrown(t *testing.T) {
	for seed := range int64(240) {
		r := rand.New(rand.NewSource(seed))
		s, l := New(), newLedger()
		next := []uint64{0, 1000, half - 150, round - 150, r.Uint64()}[seed%5]
		steps := []int{1, 2, 4, 30}[r.Intn(4)]
		now := int64(0)
		for range 900 {
			now += int64(r.Intn(50))
			switch roll := r.Intn(100); {
			case roll < 70:
				n, at := next, now
				switch r.Intn(30) {
				case 0:
					at = -at - 1
				case 1:
					n -= uint64(r.Intn(40))
				case 2:
					n += half
				case 3:
					at = int64(r.Intn(500))
				}
				ok := l.put(n, at)
				if s.Put(n, at) != ok || counts(s) != l.counts() {
					t.Fatalf("P10.1: Put %d at %d is not %v, or %s is not %s", n, at, ok, counts(s), l.counts())
				}
				if ok {
					next = n + 1 + uint64(r.Intn(steps))
				}
			case roll < 71:
				if s.LoseAll() != l.loseAll() || counts(s) != l.counts() {
					t.Fatalf("P10.1: LoseAll: %s, not %s", counts(s), l.counts())
				}
			default:
				ack := next + uint64(r.Intn(10)) - uint64(r.Intn(40*steps))
				if r.Intn(8) == 0 {
					ack = next - uint64(r.Intn(250*steps))
				}
				same(t, s, l, ack, throwCells(r), now-int64(r.Intn(9)))
			}
		}
	}
}

// What is kept does not grow with what was put.
func TestKeepsNoMore(t *testing.T) {
	s := New()
	for n := range uint64(200000) {
		s.Put(n, int64(n))
		if n%100 == 0 {
			s.Hear(n, cells(0, 64, 3, 10, 0, 26), int64(n))
		}
	}
	if s.Len() != 200 || len(s.kept) != 200 || cap(s.kept) > 2000 {
		t.Errorf("P10.1: %d are kept, with room for %d", len(s.kept), cap(s.kept))
	}
}
