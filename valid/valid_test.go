package valid

import (
	"fmt"
	"math"
	"math/rand"
	"slices"
	"testing"

	"muleteer/api"
)

const (
	last = api.SeqMask // the number behind which 0 comes
	half = 1 << 47
)

// open is a view far from the round's end: 1,000 to 1,100 may come, and 401 to 500 may be told as got.
func open(state int) api.View {
	return api.View{State: state, Gss: 500, Gsr: 1024, Gar: 450, Iss: 10, Isr: 20, Mine: 100, Theirs: 100}
}

func packet(t int, s, a uint64) api.Pkt {
	return api.Pkt{Head: api.Head{Type: t, X: true, Seq: s, Ack: a}}
}

func short(t int, s, a uint64) api.Pkt {
	return api.Pkt{Head: api.Head{Type: t, Seq: s, Ack: a}}
}

type bounds struct{ swl, swh, awl, awh uint64 }

func boundsOf(v api.View) bounds {
	swl, swh, awl, awh := Windows(v)
	return bounds{swl, swh, awl, awh}
}

func TestWindowsScenes(t *testing.T) {
	for _, x := range []struct {
		what string
		turn func(v *api.View)
		want bounds
	}{
		{"as it is", func(v *api.View) {}, bounds{1000, 1099, 401, 500}},
		{"a quarter's whole part", func(v *api.View) { v.Theirs = 103 }, bounds{1000, 1101, 401, 500}},
		{"a quarter, just whole", func(v *api.View) { v.Theirs = 104 }, bounds{999, 1102, 401, 500}},
		{"three quarters' whole part", func(v *api.View) { v.Theirs = 101 }, bounds{1000, 1099, 401, 500}},
		{"three quarters of 102", func(v *api.View) { v.Theirs = 102 }, bounds{1000, 1100, 401, 500}},
		{"Theirs 32", func(v *api.View) { v.Theirs = 32 }, bounds{1017, 1048, 401, 500}},
		{"Theirs 31", func(v *api.View) { v.Theirs = 31 }, bounds{1017, 1048, 401, 500}},
		{"Theirs 36", func(v *api.View) { v.Theirs = 36 }, bounds{1016, 1051, 401, 500}},
		{"Theirs the least there is", func(v *api.View) { v.Theirs = math.MinInt64 }, bounds{1017, 1048, 401, 500}},
		{"Theirs 1000", func(v *api.View) { v.Theirs = 1000 }, bounds{775, 1774, 401, 500}},
		{"Theirs 996", func(v *api.View) { v.Theirs = 996 }, bounds{776, 1771, 401, 500}},
		{"Theirs 1001", func(v *api.View) { v.Theirs = 1001 }, bounds{775, 1774, 401, 500}},
		{"Theirs 1004", func(v *api.View) { v.Theirs = 1004 }, bounds{775, 1774, 401, 500}},
		{"Theirs the greatest there is", func(v *api.View) { v.Theirs = math.MaxInt64 }, bounds{775, 1774, 401, 500}},
		{"Mine 32", func(v *api.View) { v.Mine = 32 }, bounds{1000, 1099, 469, 500}},
		{"Mine 33", func(v *api.View) { v.Mine = 33 }, bounds{1000, 1099, 468, 500}},
		{"Mine 31", func(v *api.View) { v.Mine = 31 }, bounds{1000, 1099, 469, 500}},
		{"Mine 0", func(v *api.View) { v.Mine = 0 }, bounds{1000, 1099, 469, 500}},
		{"Mine the least there is", func(v *api.View) { v.Mine = math.MinInt64 }, bounds{1000, 1099, 469, 500}},
		{"Mine 1000", func(v *api.View) { v.Mine, v.Gss = 1000, 5000 }, bounds{1000, 1099, 4001, 5000}},
		{"Mine 999", func(v *api.View) { v.Mine, v.Gss = 999, 5000 }, bounds{1000, 1099, 4002, 5000}},
		{"Mine 1001", func(v *api.View) { v.Mine, v.Gss = 1001, 5000 }, bounds{1000, 1099, 4001, 5000}},
		{"Mine the greatest there is", func(v *api.View) { v.Mine, v.Gss = math.MaxInt64, 5000 }, bounds{1000, 1099, 4001, 5000}},
		{"Isr at the bound", func(v *api.View) { v.Isr = 1000 }, bounds{1000, 1099, 401, 500}},
		{"Isr beyond the bound", func(v *api.View) { v.Isr = 1001 }, bounds{1001, 1099, 401, 500}},
		{"Isr beyond them all", func(v *api.View) { v.Isr = 2000 }, bounds{2000, 1099, 401, 500}},
		{"Iss at the bound", func(v *api.View) { v.Iss = 401 }, bounds{1000, 1099, 401, 500}},
		{"Iss beyond the bound", func(v *api.View) { v.Iss = 402 }, bounds{1000, 1099, 402, 500}},
		{"Iss beyond them all", func(v *api.View) { v.Iss = 501 }, bounds{1000, 1099, 501, 500}},
		{"over the round's end", func(v *api.View) { v.Gsr, v.Isr, v.Gss, v.Iss = 10, last-50, 10, last-50 }, bounds{last - 13, 85, last - 50, 10}},
		{"Isr ahead of the round's end", func(v *api.View) { v.Gsr, v.Isr = 10, last-5 }, bounds{last - 5, 85, 401, 500}},
		{"up over the round's end", func(v *api.View) { v.Gsr, v.Isr, v.Gss, v.Iss = last, last-500, last, last-500 }, bounds{last - 24, 74, last - 99, last}},
		{"numbers beyond the round", func(v *api.View) {
			v.Gsr, v.Isr, v.Gss, v.Iss = 1024|1<<48, 1010|3<<60, 500|1<<63, 410|1<<50
		}, bounds{1010, 1099, 410, 500}},
		{"Isr, Iss a half round on", func(v *api.View) { v.Isr, v.Iss = 1000+half-1, 401+half-1 }, bounds{1000 + half - 1, 1099, 401 + half - 1, 500}},
		{"Isr, Iss a half round back", func(v *api.View) { v.Isr, v.Iss = 1000+half+1, 401+half+1 }, bounds{1000, 1099, 401, 500}},
		{"just between, each is less than the other", func(v *api.View) { v.Isr, v.Iss = 1000+half, 401+half }, bounds{1000 + half, 1099, 401 + half, 500}},
	} {
		v := open(api.SOpen)
		x.turn(&v)
		if got := boundsOf(v); got != x.want {
			t.Errorf("P23.1: %s: Windows %v, not %v", x.what, got, x.want)
		}
	}
}

func TestWindowsAsksNoMore(t *testing.T) {
	for state := -1; state <= 9; state++ {
		v := open(state)
		v.Gar = 77777
		if got := boundsOf(v); got != (bounds{1000, 1099, 401, 500}) {
			t.Errorf("P23.1: state %d, Gar 77777: Windows %v", state, got)
		}
	}
	if got := boundsOf(api.View{}); got != (bounds{0, 24, 0, 0}) {
		t.Errorf("P23.1: of the empty view: Windows %v", got)
	}
}

func TestLongScenes(t *testing.T) {
	const round = 1 << 24
	v := open(api.SOpen)
	v.Gsr, v.Gss = 5*round+100, 7*round+round-100
	for _, x := range []struct {
		what    string
		p, want api.Pkt
	}{
		{"TAck", short(api.TAck, 101, round-101), packet(api.TAck, 5*round+101, 7*round+round-101)},
		{"TDataAck", short(api.TDataAck, round-1, 3), packet(api.TDataAck, 4*round+round-1, 8*round+3)},
		{"TData", short(api.TData, 102, 0), packet(api.TData, 5*round+102, 0)},
		{"TData with an Ack that it has not", short(api.TData, 102, 5), packet(api.TData, 5*round+102, 5)},
		{"TRequest with an Ack that it has not", short(api.TRequest, 102, 5), packet(api.TRequest, 5*round+102, 5)},
		{"TSync", short(api.TSync, 102, 5), packet(api.TSync, 5*round+102, 8*round+5)},
		{"TSyncAck", short(api.TSyncAck, 102, 5), packet(api.TSyncAck, 5*round+102, 8*round+5)},
		{"TResponse", short(api.TResponse, 102, 5), packet(api.TResponse, 5*round+102, 8*round+5)},
		{"TReset", short(api.TReset, 102, 5), packet(api.TReset, 5*round+102, 8*round+5)},
		{"no type", short(10, 102, 5), packet(10, 5*round+102, 5)},
		{"a type below all", short(-1, 102, 5), packet(-1, 5*round+102, 5)},
		{"the lowest 24 bits count", short(api.TAck, 9*round+101, 9*round-101), packet(api.TAck, 5*round+101, 7*round+round-101)},
		{"the highest bits, too", short(api.TAck, 101|1<<63|1<<31, 5|1<<63|1<<31), packet(api.TAck, 5*round+101, 8*round+5)},
		{"just a half round on", short(api.TAck, 100+round/2-1, round/2-101), packet(api.TAck, 5*round+100+round/2-1, 8*round+round/2-101)},
		{"a half round is one back", short(api.TAck, 100+round/2, round/2-100), packet(api.TAck, 4*round+100+round/2, 7*round+round/2-100)},
		{"X", packet(api.TAck, 101, 102), packet(api.TAck, 101, 102)},
		{"X, numbers far away", packet(api.TSync, 1<<40, last), packet(api.TSync, 1<<40, last)},
		{"X, no type", packet(77, 1, 2), packet(77, 1, 2)},
		{"X, an Ack that it has not", packet(api.TData, 1, 2), packet(api.TData, 1, 2)},
	} {
		if got := Long(v, x.p); got.Head != x.want.Head || len(got.Opts) != 0 || got.Data != "" {
			t.Errorf("P23.1: %s: Long %v, not %v", x.what, got, x.want)
		}
	}
}

func TestLongOverTheEnd(t *testing.T) {
	v := open(api.SOpen)
	v.Gsr, v.Gss = last-3, 2
	if got, want := Long(v, short(api.TAck, 4, 1<<24-2)), packet(api.TAck, 4, last-1); got.Head != want.Head {
		t.Errorf("P23.1: over the round's end: Long %v, not %v", got, want)
	}
	v.Gsr, v.Gss = last-3|1<<50, 2|1<<60
	if got, want := Long(v, short(api.TAck, 4, 1<<24-2)), packet(api.TAck, 4, last-1); got.Head != want.Head {
		t.Errorf("P23.1: near numbers beyond the round: Long %v, not %v", got, want)
	}
}

func TestLongLeavesTheRest(t *testing.T) {
	for _, x := range []bool{false, true} {
		h := api.Head{Src: -1, Dst: 70000, Off: 300, CCVal: 7, CsCov: 99, Sum: -5, Type: api.TReset, X: x, Seq: 9, Ack: 8, Service: 7, Code: 6, Info: [3]byte{5, 4, 3}}
		p := api.Pkt{Head: h, Opts: []api.Opt{{Type: 1000, Data: "no option"}, {Type: api.OSlow}}, Data: "hello"}
		got := Long(open(api.SOpen), p)
		h.X = true
		if got.Head != h || !slices.Equal(got.Opts, p.Opts) || got.Data != "hello" {
			t.Errorf("P23.1: X %v: Long %v of %v", x, got, p)
		}
	}
}

func TestListsAreNotShared(t *testing.T) {
	for _, x := range []bool{false, true} {
		room := []api.Opt{{Type: api.OSlow}, {Type: api.OPad}, {Type: 55, Data: "room"}}
		before := slices.Clone(room)
		p := packet(api.TAck, 1025, 500)
		p.Head.X, p.Opts = x, room[:2]
		v := open(api.SOpen)
		first, second := Long(v, p), Long(v, p)
		Check(v, p)
		Answer(v, p)
		if !slices.Equal(room, before) {
			t.Fatalf("P0.3: X %v: the options handed in are now %v", x, room)
		}
		first.Opts[0].Type = 99
		_ = append(first.Opts, api.Opt{Type: 98})
		if !slices.Equal(room, before) || !slices.Equal(second.Opts, before[:2]) {
			t.Errorf("P0.3: X %v: an answer shares its options: %v, %v", x, room, second.Opts)
		}
		room[1].Data = "later"
		if second.Opts[1].Data != "" {
			t.Errorf("P0.3: X %v: an answer's options change with those handed in", x)
		}
		p.Opts = nil
		none := Long(v, p)
		p.Opts = room[:0]
		if empty := Long(v, p); len(none.Opts) != 0 || len(empty.Opts) != 0 || none.Head != empty.Head {
			t.Errorf("P0.4: X %v: Long %v of nil options, %v of none", x, none, empty)
		}
	}
}

// verdict is one packet in a state, and what is thought of it.
type verdict struct {
	state, t int
	s, a     uint64
	want     int
}

func judgeAll(t *testing.T, v api.View, vs []verdict) {
	t.Helper()
	for _, x := range vs {
		v.State = x.state
		if got := Check(v, packet(x.t, x.s, x.a)); got != x.want {
			t.Errorf("P23.2: state %d, type %d, Seq %d, Ack %d: Check %d, not %d", x.state, x.t, x.s, x.a, got, x.want)
		}
	}
}

func TestCheckWithoutNumbers(t *testing.T) {
	v := open(0)
	for kind := -1; kind <= 10; kind++ {
		for _, s := range []uint64{1000, 1025, 7} {
			for _, a := range []uint64{0, 400, 401, 500, 501} {
				listen, request := Drop, Drop
				if kind == api.TRequest {
					listen = Good
				}
				if (kind == api.TResponse || kind == api.TReset) && 401 <= a && a <= 500 {
					request = Good
				}
				judgeAll(t, v, []verdict{
					{api.SClosed, kind, s, a, Drop}, {api.STimeWait, kind, s, a, Drop}, {api.SListen, kind, s, a, listen}, {api.SRequest, kind, s, a, request},
				})
			}
		}
	}
}

// others are the states with numbers of both sides, and two that are none.
var others = []int{api.SRespond, api.SPartOpen, api.SOpen, api.SCloseReq, api.SClosing, -1, 9}

func TestCheckEdges(t *testing.T) {
	for _, state := range others {
		request := Sync
		if state == api.SRespond {
			request = Good
		}
		judgeAll(t, open(0), []verdict{
			{state, api.TRequest, 1000, 0, request}, {state, api.TRequest, 1099, 0, request}, {state, api.TRequest, 999, 0, Sync}, {state, api.TRequest, 1100, 0, Sync},
			{state, api.TResponse, 1025, 500, Sync}, {state, api.TResponse, 999, 400, Sync}, {state, 10, 1025, 500, Sync}, {state, -1, 1025, 500, Sync},
			{state, api.TData, 1000, 0, Good}, {state, api.TData, 1099, 777, Good}, {state, api.TData, 999, 0, Sync}, {state, api.TData, 1100, 0, Sync},
			{state, api.TAck, 1000, 401, Good}, {state, api.TAck, 1099, 500, Good}, {state, api.TAck, 999, 450, Sync}, {state, api.TAck, 1100, 450, Sync}, {state, api.TAck, 1050, 400, Sync}, {state, api.TAck, 1050, 501, Sync},
			{state, api.TDataAck, 1000, 401, Good}, {state, api.TDataAck, 1099, 500, Good}, {state, api.TDataAck, 999, 450, Sync}, {state, api.TDataAck, 1100, 450, Sync}, {state, api.TDataAck, 1050, 400, Sync}, {state, api.TDataAck, 1050, 501, Sync},
			{state, api.TSync, 1000, 401, Good}, {state, api.TSync, 999, 450, Drop}, {state, api.TSync, 1100, 500, Good}, {state, api.TSync, 1000 + half - 1, 450, Good}, {state, api.TSync, 1000 + half, 450, Drop}, {state, api.TSync, 1050, 400, Drop}, {state, api.TSync, 1050, 501, Drop},
			{state, api.TSyncAck, 1000, 401, Good}, {state, api.TSyncAck, 999, 450, Drop}, {state, api.TSyncAck, 1100, 500, Good}, {state, api.TSyncAck, 1000 + half - 1, 450, Good}, {state, api.TSyncAck, 1000 + half, 450, Drop}, {state, api.TSyncAck, 1050, 400, Drop}, {state, api.TSyncAck, 1050, 501, Drop},
		})
		for _, kind := range []int{api.TCloseReq, api.TClose, api.TReset} {
			judgeAll(t, open(0), []verdict{
				{state, kind, 1025, 450, Good}, {state, kind, 1024, 450, Sync}, {state, kind, 1099, 500, Good}, {state, kind, 1100, 500, Sync}, {state, kind, 1025, 449, Sync}, {state, kind, 1025, 501, Sync}, {state, kind, 1000, 450, Sync},
			})
		}
	}
}

func TestCheckOverTheEnd(t *testing.T) {
	v := open(0)
	v.Gsr, v.Isr, v.Gss, v.Iss, v.Gar = 10, last-500, 20, last-500, last
	judgeAll(t, v, []verdict{
		{api.SOpen, api.TData, last - 13, 0, Good}, {api.SOpen, api.TData, last - 14, 0, Sync}, {api.SOpen, api.TData, 85, 0, Good}, {api.SOpen, api.TData, 86, 0, Sync},
		{api.SOpen, api.TAck, last, last - 78, Good}, {api.SOpen, api.TAck, last, last - 79, Sync}, {api.SOpen, api.TAck, 0, 20, Good}, {api.SOpen, api.TAck, 0, 21, Sync},
		{api.SOpen, api.TClose, 11, last, Good}, {api.SOpen, api.TClose, 11, last - 1, Sync}, {api.SOpen, api.TClose, 11, 0, Good}, {api.SOpen, api.TClose, last, 0, Sync},
		{api.SOpen, api.TSync, last - 13, last, Good}, {api.SOpen, api.TSync, last - 14, last, Drop},
		{api.SRequest, api.TResponse, 5, last - 78, Good}, {api.SRequest, api.TResponse, 5, last - 79, Drop}, {api.SRequest, api.TReset, 5, 20, Good}, {api.SRequest, api.TReset, 5, 21, Drop},
	})
}

// The bounds turn round where the first number lies beyond the last one: in a round that is nearly all of it.
func TestCheckBoundsTurned(t *testing.T) {
	v := open(0)
	v.Isr, v.Iss, v.Gar = 2000, 600, 700
	judgeAll(t, v, []verdict{
		{api.SOpen, api.TData, 1050, 0, Good}, {api.SOpen, api.TData, 1099, 0, Good}, {api.SOpen, api.TData, 1100, 0, Sync}, {api.SOpen, api.TData, 1999, 0, Sync}, {api.SOpen, api.TData, 2000, 0, Good},
		{api.SOpen, api.TAck, 1050, 600, Good}, {api.SOpen, api.TAck, 1050, 500, Good}, {api.SOpen, api.TAck, 1050, 501, Sync}, {api.SOpen, api.TAck, 1050, 599, Sync},
		{api.SOpen, api.TClose, 1050, 700, Good}, {api.SOpen, api.TClose, 1050, 699, Sync}, {api.SOpen, api.TClose, 1050, 500, Good}, {api.SOpen, api.TClose, 1050, 501, Sync},
		{api.SOpen, api.TSync, 1999, 600, Drop}, {api.SOpen, api.TSync, 2000, 600, Good},
	})
}

func TestCheckNumbersBeyondTheRound(t *testing.T) {
	judgeAll(t, open(0), []verdict{
		{api.SOpen, api.TAck, 1000 | 1<<48, 401 | 1<<63, Good}, {api.SOpen, api.TAck, 999 | 1<<48, 401, Sync}, {api.SOpen, api.TAck, 1000, 400 | 1<<48, Sync},
		{api.SOpen, api.TClose, 1025 | 1<<50, 450 | 1<<49, Good}, {api.SOpen, api.TSync, 1000 | 1<<48, 401 | 1<<48, Good}, {api.SOpen, api.TSync, 999 | 1<<48, 401, Drop},
		{api.SRequest, api.TResponse, 0, 500 | 1<<48, Good},
	})
}

func TestCheckShort(t *testing.T) {
	const round = 1 << 24
	v := open(api.SOpen)
	v.Gsr, v.Isr, v.Gss, v.Iss, v.Gar = 5*round+10, 5*round-100, 8*round-5, 7*round, 8*round-50
	for _, x := range []struct {
		what string
		p    api.Pkt
		want int
		ack  uint64
	}{
		{"in both windows", short(api.TAck, 11, round-5), Good, 0},
		{"at the lower bounds", short(api.TDataAck, round-14, round-104), Good, 0},
		{"below the lower bound of numbers", short(api.TDataAck, round-15, round-104), Sync, 5*round - 15},
		{"below the lower bound of Acks", short(api.TDataAck, round-14, round-105), Sync, 5*round - 14},
		{"at the upper bound", short(api.TData, 85, 0), Good, 0},
		{"beyond the upper bound", short(api.TData, 86, 0), Sync, 5*round + 86},
		{"an Ack beyond the upper bound", short(api.TAck, 11, round-4), Sync, 5*round + 11},
		{"a TReset that is short, but fits", short(api.TReset, 11, round-50), Good, 0},
		{"a TReset that is short and old", short(api.TReset, 10, round-50), Sync, 5*round + 10},
		{"a TSync that is short, but fits", short(api.TSync, round-14, round-5), Good, 0},
		{"a TSync that is short and old", short(api.TSync, round-15, round-5), Drop, 0},
		{"the short numbers' higher bits do not count", short(api.TAck, 9*round+11, 3*round+round-5), Good, 0},
		{"with X they count", packet(api.TAck, 11, round-5), Sync, 11},
	} {
		if got := Check(v, x.p); got != x.want {
			t.Errorf("P23.2: %s: Check %d, not %d", x.what, got, x.want)
		}
		if n, ok := Answer(v, x.p); ok != (x.want == Sync) || n != x.ack {
			t.Errorf("P23.2: %s: Answer %d, %v, not %d", x.what, n, ok, x.ack)
		}
	}
}

func TestAnswer(t *testing.T) {
	for _, x := range []struct {
		state int
		p     api.Pkt
		want  string
	}{
		{api.SOpen, packet(api.TData, 999, 0), "999 true"}, {api.SOpen, packet(api.TData, 1000, 0), "0 false"}, {api.SOpen, packet(api.TAck, 1050, 400), "1050 true"},
		{api.SOpen, packet(api.TRequest, 0, 0), "0 true"}, {api.SOpen, packet(api.TResponse, last, 500), fmt.Sprint(uint64(last), " true")},
		{api.SOpen, packet(api.TCloseReq, 3, 500), "3 true"}, {api.SOpen, packet(api.TClose, 4, 500), "4 true"},
		{api.SOpen, packet(api.TReset, 4, 500), "1024 true"}, {api.SOpen, packet(api.TReset, 1025, 501), "1024 true"}, {api.SOpen, packet(api.TReset, 1025, 500), "0 false"},
		{api.SOpen, packet(api.TSync, 999, 500), "0 false"}, {api.SOpen, packet(api.TSyncAck, 999, 500), "0 false"}, {api.SOpen, packet(api.TSync, 1000, 500), "0 false"},
		{api.SClosed, packet(api.TReset, 4, 400), "0 false"}, {api.STimeWait, packet(api.TAck, 4, 400), "0 false"}, {api.SListen, packet(api.TAck, 4, 400), "0 false"}, {api.SRequest, packet(api.TAck, 4, 400), "0 false"},
		{api.SOpen, packet(11, 12, 0), "12 true"}, {api.SOpen, packet(api.TData, 7|1<<48, 0), "7 true"},
	} {
		n, ok := Answer(open(x.state), x.p)
		if got := fmt.Sprint(n, " ", ok); got != x.want {
			t.Errorf("P23.2: state %d, %v: Answer %s, not %s", x.state, x.p.Head, got, x.want)
		}
	}
	v := open(api.SOpen)
	v.Gsr |= 1 << 48
	if n, ok := Answer(v, packet(api.TReset, 4, 500)); n != 1024 || !ok {
		t.Errorf("P23.2: Gsr beyond the round: Answer %d, %v", n, ok)
	}
}

// up is how many steps lead up from a to b.
func up(a, b uint64) uint64 { return (b%(1<<48) + 1<<48 - a%(1<<48)) % (1 << 48) }

// further tells whether b is further on than a; of two a half round apart each is.
func further(a, b uint64) bool { return a%(1<<48) != b%(1<<48) && up(a, b) <= half }

// wantWindows walks: its bounds are told by steps from Gsr and Gss, one by one.
func wantWindows(v api.View) bounds {
	within := func(n int) int {
		if n < 32 {
			return 32
		}
		if n > 1000 {
			return 1000
		}
		return n
	}
	on := func(n uint64, steps int) uint64 {
		for ; steps > 0; steps-- {
			n = (n + 1) % (1 << 48)
		}
		for ; steps < 0; steps++ {
			n = (n + 1<<48 - 1) % (1 << 48)
		}
		return n % (1 << 48)
	}
	theirs, mine := within(v.Theirs), within(v.Mine)
	w := bounds{on(v.Gsr, 1-theirs/4), on(v.Gsr, theirs*3/4), on(v.Gss, 1-mine), on(v.Gss, 0)}
	if further(w.swl, v.Isr) {
		w.swl = v.Isr % (1 << 48)
	}
	if further(w.awl, v.Iss) {
		w.awl = v.Iss % (1 << 48)
	}
	return w
}

// wantLong tries the three numbers that a short one may stand for.
func wantLong(short, near uint64) uint64 {
	low := short % (1 << 24)
	for _, high := range []uint64{0, 1, 1<<24 - 1} {
		n := ((near>>24+high)%(1<<24))<<24 | low
		if up(n, near) <= 1<<23 || up(near, n) < 1<<23 {
			return n
		}
	}
	panic("no number is near")
}

var hasAck = []bool{false, true, false, true, true, true, true, true, true, true}

// wantCheck asks state by type, as the chapter's words go.
func wantCheck(v api.View, p api.Pkt) (int, uint64) {
	h := p.Head
	s, a := h.Seq%(1<<48), h.Ack%(1<<48)
	if !h.X {
		s = wantLong(h.Seq, v.Gsr)
		if 0 <= h.Type && h.Type <= 9 && hasAck[h.Type] {
			a = wantLong(h.Ack, v.Gss)
		}
	}
	w := wantWindows(v)
	in := func(low, n, high uint64) bool { return up(low, n) <= up(low, high) }
	seqIn, ackIn := in(w.swl, s, w.swh), in(w.awl, a, w.awh)
	good := map[int]bool{
		api.TRequest: v.State == 3 && seqIn, api.TData: seqIn, api.TAck: seqIn && ackIn, api.TDataAck: seqIn && ackIn,
		api.TSync: !further(s, w.swl) && ackIn, api.TSyncAck: !further(s, w.swl) && ackIn,
	}
	for _, t := range []int{5, 6, 7} {
		good[t] = in(v.Gsr+1, s, w.swh) && in(v.Gar, a, w.awh)
	}
	bad := Sync
	switch v.State {
	case 0, 8:
		return Drop, 0
	case 1:
		good, bad = map[int]bool{0: true}, Drop
	case 2:
		good, bad = map[int]bool{1: ackIn, 7: ackIn}, Drop
	default:
		if h.Type == 8 || h.Type == 9 {
			bad = Drop
		}
	}
	if good[h.Type] {
		return Good, 0
	}
	if bad == Drop {
		return Drop, 0
	}
	if h.Type == 7 {
		s = v.Gsr % (1 << 48)
	}
	return Sync, s
}

func holdAgainst(t *testing.T, v api.View, p api.Pkt) {
	t.Helper()
	if got, want := boundsOf(v), wantWindows(v); got != want {
		t.Fatalf("P23.1: %+v: Windows %v, not %v", v, got, want)
	}
	want, n := wantCheck(v, p)
	if got := Check(v, p); got != want {
		t.Fatalf("P23.2: %+v, %+v: Check %d, not %d", v, p.Head, got, want)
	}
	if got, ok := Answer(v, p); got != n || ok != (want == Sync) {
		t.Fatalf("P23.2: %+v, %+v: Answer %d, %v, not %d", v, p.Head, got, ok, n)
	}
	if again := Check(v, p); again != want {
		t.Fatalf("P0.5: %+v, %+v: Check %d, then %d", v, p.Head, want, again)
	}
}

func TestAgainstAnotherReckoning(t *testing.T) {
	r := rand.New(rand.NewSource(23))
	windows := []int{32, 33, 35, 100, 999, 1000, 31, 0, -7, 5000, math.MaxInt64, math.MinInt64}
	bases := []uint64{0, 5, 600, 1 << 24, 1<<24 + 1<<23, half - 3, half, last - 4, last, 1 << 48, 1<<63 + 9}
	near := func(n uint64) uint64 {
		switch r.Intn(8) {
		case 0:
			return n + half + uint64(r.Intn(5)) - 2
		case 1:
			return r.Uint64() >> uint(r.Intn(64))
		case 2:
			return n + uint64(r.Intn(1<<25)) - 1<<24
		}
		return n + uint64(r.Intn(2400)) - 1200
	}
	for range 60000 {
		in, out := bases[r.Intn(len(bases))], bases[r.Intn(len(bases))]
		v := api.View{State: r.Intn(11) - 1, Gsr: near(in), Isr: near(in), Gss: near(out), Iss: near(out), Gar: near(out), Mine: windows[r.Intn(len(windows))], Theirs: windows[r.Intn(len(windows))]}
		w := wantWindows(v)
		seqs := []uint64{w.swl, w.swl - 1, w.swh, w.swh + 1, v.Gsr, v.Gsr + 1, near(v.Gsr), w.swl + half}
		acks := []uint64{w.awl, w.awl - 1, w.awh, w.awh + 1, v.Gar, v.Gar - 1, near(v.Gss)}
		for kind := -1; kind <= 10; kind++ {
			p := packet(kind, seqs[r.Intn(len(seqs))], acks[r.Intn(len(acks))])
			p.Head.X = r.Intn(3) > 0
			holdAgainst(t, v, p)
		}
	}
}

func TestFarArguments(t *testing.T) {
	ns := []uint64{0, 1, half, last, last + 1, math.MaxInt64, math.MaxUint64}
	for _, n := range ns {
		for _, m := range ns {
			for _, w := range []int{math.MinInt64, -1, 0, math.MaxInt64} {
				for _, state := range []int{math.MinInt64, api.SRequest, api.SRespond, api.SOpen, math.MaxInt64} {
					for _, kind := range []int{math.MinInt64, api.TRequest, api.TReset, api.TSync, math.MaxInt64} {
						v := api.View{State: state, Gss: n, Gsr: m, Gar: m, Iss: m, Isr: n, Mine: w, Theirs: w}
						holdAgainst(t, v, packet(kind, m, n))
						holdAgainst(t, v, short(kind, n, m))
					}
				}
			}
		}
	}
}
