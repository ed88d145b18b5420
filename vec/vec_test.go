package vec

import (
	"encoding/hex"
	"math"
	"math/rand"
	"reflect"
	"slices"
	"strings"
	"testing"

	"muleteer/api"
)

type cells = []api.Cell

// odd are numbers about each edge that a state or a run has, and such as pass for good ones where they are cut to fewer bits.
var odd = []int{math.MinInt, math.MinInt + 1, math.MinInt + 64, math.MinInt32, -256, -255, -253, -128, -65, -64, -63, -4, -3, -2, -1, 0, 1, 2, 3, 4, 5, 6, 7, 31, 32, 62, 63, 64, 65, 66, 127, 128, 192, 255, 256, 257, 258, 259, 1000, 1001, 1 << 16, 1<<32 - 1, 1 << 32, 1<<32 + 1, 1<<32 + 3, 1 << 62, 1<<62 + 1, math.MaxInt - 63, math.MaxInt - 1, math.MaxInt}

func goodState(s int) bool { return slices.Contains([]int{0, 1, 3}, s) }

func goodCell(c api.Cell) bool {
	return goodState(c.State) && c.Run > 0 && c.Run < 65
}

// upTo is 1 to n.
func upTo(n int) []int {
	l := make([]int, n)
	for i := range l {
		l[i] = i + 1
	}
	return l
}

func unhex(t *testing.T, s string) string {
	t.Helper()
	b, err := hex.DecodeString(strings.ReplaceAll(s, " ", ""))
	if err != nil {
		t.Fatal(err)
	}
	return string(b)
}

// same takes a nil list and an empty one as alike.
func same[E comparable](a, b []E) bool { return slices.Equal(a, b) }

// fill is cells of n numbers, as few as there may be, each other one of them lost.
func fill(n int) cells {
	var cs cells
	for i := 0; n > 0; i++ {
		run := min(n, 64)
		cs = append(cs, api.Cell{State: i % 2 * 3, Run: run})
		n -= run
	}
	return cs
}

// wantSpread is what cs are, however many.
func wantSpread(cs cells) []int {
	var l []int
	for _, c := range cs {
		l = append(l, slices.Repeat([]int{c.State}, c.Run)...)
	}
	return l
}

// wantTexts has a byte for each cell, at its place.
func wantTexts(cs cells) []string {
	texts := make([][]byte, (len(cs)+252)/253)
	for i, c := range cs {
		texts[i/253] = append(texts[i/253], byte(64*c.State+c.Run-1))
	}
	var l []string
	for _, b := range texts {
		l = append(l, string(b))
	}
	return l
}

// wantOf seeks where each stretch of one state ends, and cuts it then.
func wantOf(states []int) cells {
	var cs cells
	for at := 0; at < len(states); {
		end := at
		for end < len(states) && states[end] == states[at] {
			end++
		}
		for n := end - at; n > 0; n -= 64 {
			cs = append(cs, api.Cell{State: states[at], Run: min(n, 64)})
		}
		at = end
	}
	return cs
}

// throw is n cells that may be, of runs up to most.
func throw(r *rand.Rand, n, most int) cells {
	cs := make(cells, n)
	for i := range cs {
		cs[i] = api.Cell{State: []int{0, 1, 3}[r.Intn(3)], Run: 1 + r.Intn(most)}
	}
	return cs
}

// mayAll holds May, Put and Spread of cs, which may be or not, against what is asked.
func mayAll(t *testing.T, cs cells, want bool) {
	t.Helper()
	if May(cs) != want {
		t.Errorf("P8.1: May of %d cells is not %v: %v", len(cs), want, cs)
	}
	texts, states := Put(cs...), Spread(cs)
	if !want {
		if texts != nil || states != nil {
			t.Errorf("P8.1: cells that may not be are %x, %v: %v", texts, states, cs)
		}
		return
	}
	if !same(texts, wantTexts(cs)) {
		t.Errorf("P8.1: Put %x: %v", texts, cs)
	}
	if !same(states, wantSpread(cs)) {
		t.Errorf("P8.1: Spread %v: %v", states, cs)
	}
}

func TestMayOfOne(t *testing.T) {
	for _, state := range append(upTo(300), odd...) {
		for _, run := range append(upTo(130), odd...) {
			c := api.Cell{State: state, Run: run}
			mayAll(t, cells{c}, goodCell(c))
		}
	}
}

func TestMayOfNone(t *testing.T) {
	for _, none := range []cells{nil, {}} {
		if !May(none) || len(Put(none...)) != 0 || len(Spread(none)) != 0 {
			t.Error("P0.4: no cells")
		}
	}
	if cs, ok := Get(""); !ok || len(cs) != 0 {
		t.Errorf("P8.1: Get of nothing: %v, %v", cs, ok)
	}
	if cs := Of([]int{}...); len(cs) != 0 {
		t.Errorf("P0.4: Of nothing: %v", cs)
	}
}

func TestMayInAll(t *testing.T) {
	for n := 1; n <= 1200; n++ {
		mayAll(t, fill(n), n <= 1000)
		mayAll(t, slices.Repeat(cells{{State: api.CMark, Run: 1}}, n), n <= 1000)
	}
	for run := 1; run <= 64; run++ {
		for n := 1; n <= 1000/run+2; n++ {
			mayAll(t, slices.Repeat(cells{{State: api.CLost, Run: run}}, n), n*run <= 1000)
		}
	}
}

func TestMayEachStateCounts(t *testing.T) {
	for _, state := range []int{0, 1, 3} {
		for _, others := range []int{0, 1, 3} {
			cs := append(cells{{State: state, Run: 40}}, slices.Repeat(cells{{State: others, Run: 64}}, 15)...)
			mayAll(t, cs, true)
			mayAll(t, append(cells{{State: state, Run: 1}}, cs...), false)
			mayAll(t, append(slices.Clone(cs), api.Cell{State: state, Run: 1}), false)
		}
	}
}

func TestMayDoesNotWrap(t *testing.T) {
	for _, run := range []int{1 << 62, math.MaxInt, math.MinInt, -1 << 62, -64, -1} {
		for _, n := range []int{1, 2, 3, 4, 8} {
			mayAll(t, slices.Repeat(cells{{Run: run}}, n), false)
			mayAll(t, append(fill(1000), slices.Repeat(cells{{Run: run}}, n)...), false)
		}
	}
}

func TestMayOfOneBadAmongGood(t *testing.T) {
	good := cells{{State: 0, Run: 5}, {State: 1, Run: 64}, {State: 3, Run: 1}}
	for _, bad := range []api.Cell{{State: 2, Run: 1}, {State: 4, Run: 1}, {State: -1, Run: 1}, {State: 256, Run: 1}, {State: 0, Run: 0}, {State: 0, Run: 65}, {State: 3, Run: -1}, {State: math.MinInt, Run: math.MaxInt}} {
		for at := range len(good) + 1 {
			mayAll(t, slices.Insert(slices.Clone(good), at, bad), false)
		}
	}
}

func TestMayThrown(t *testing.T) {
	r := rand.New(rand.NewSource(8))
	for range 5000 {
		cs := throw(r, r.Intn(60), 1+r.Intn(64))
		if len(cs) > 0 && r.Intn(4) == 0 {
			cs[r.Intn(len(cs))] = api.Cell{State: odd[r.Intn(len(odd))], Run: odd[r.Intn(len(odd))]}
		}
		bad := slices.ContainsFunc(cs, func(c api.Cell) bool { return !goodCell(c) })
		mayAll(t, cs, !bad && len(wantSpread(cs)) <= 1000)
	}
}

func TestPut(t *testing.T) {
	for _, x := range []struct {
		name string
		cs   cells
		want string
	}{
		{"the least run got", cells{{State: 0, Run: 1}}, "00"},
		{"the greatest run got", cells{{State: 0, Run: 64}}, "3f"},
		{"the least run marked", cells{{State: 1, Run: 1}}, "40"},
		{"the greatest run marked", cells{{State: 1, Run: 64}}, "7f"},
		{"the least run lost", cells{{State: 3, Run: 1}}, "c0"},
		{"the greatest run lost", cells{{State: 3, Run: 64}}, "ff"},
		{"in their order", cells{{State: 3, Run: 2}, {State: 0, Run: 33}, {State: 1, Run: 10}}, "c1 20 49"},
		{"alike ones stay as they are", cells{{State: 0, Run: 2}, {State: 0, Run: 3}, {State: 0, Run: 3}}, "01 02 02"},
	} {
		got := Put(x.cs...)
		if len(got) != 1 || got[0] != unhex(t, x.want) {
			t.Errorf("P8.1, %s: Put %x, not %s", x.name, got, x.want)
		}
	}
}

func TestPutLengths(t *testing.T) {
	for _, x := range []struct {
		n    int
		want []int
	}{
		{0, nil}, {1, []int{1}}, {252, []int{252}}, {253, []int{253}}, {254, []int{253, 1}}, {505, []int{253, 252}}, {506, []int{253, 253}}, {507, []int{253, 253, 1}},
		{759, []int{253, 253, 253}}, {760, []int{253, 253, 253, 1}}, {999, []int{253, 253, 253, 240}}, {1000, []int{253, 253, 253, 241}}, {1001, nil},
	} {
		var got []int
		for _, s := range Put(slices.Repeat(cells{{State: 3, Run: 1}}, x.n)...) {
			got = append(got, len(s))
		}
		if !same(got, x.want) {
			t.Errorf("P8.1: the texts of %d cells have %v bytes", x.n, got)
		}
	}
}

func TestGetOfEachByte(t *testing.T) {
	for b := range 256 {
		s := string([]byte{byte(b)})
		got, ok := Get(s)
		if b >= 128 && b < 192 {
			if ok || got != nil {
				t.Errorf("P8.1: Get %02x: %v, %v", b, got, ok)
			}
			continue
		}
		want := cells{{State: b / 64, Run: b%64 + 1}}
		if !ok || !same(got, want) {
			t.Errorf("P8.1: Get %02x: %v, %v", b, got, ok)
		}
		if back := Put(got...); len(back) != 1 || back[0] != s {
			t.Errorf("P8.1: %02x is %x when it is back", b, back)
		}
	}
}

func TestGet(t *testing.T) {
	for _, x := range []struct {
		s    string
		want cells
		ok   bool
	}{
		{"c1 20 49", cells{{State: 3, Run: 2}, {State: 0, Run: 33}, {State: 1, Run: 10}}, true},
		{"00 00 00", cells{{State: 0, Run: 1}, {State: 0, Run: 1}, {State: 0, Run: 1}}, true},
		{"3f 3f ff", cells{{State: 0, Run: 64}, {State: 0, Run: 64}, {State: 3, Run: 64}}, true},
		{"80", nil, false}, {"bf", nil, false}, {"80 00 00", nil, false}, {"00 a5 00", nil, false}, {"00 00 80", nil, false}, {"ff 7f bf", nil, false}, {"80 80", nil, false},
	} {
		got, ok := Get(unhex(t, x.s))
		if ok != x.ok || !same(got, x.want) || !ok && got != nil {
			t.Errorf("P8.1: Get %s: %v, %v", x.s, got, ok)
		}
	}
}

func TestGetOfOneBadAmongGood(t *testing.T) {
	good := strings.Repeat("\x00\x7f\xff", 100)
	for at := range len(good) + 1 {
		for _, bad := range []string{"\x80", "\x9c", "\xbf"} {
			if got, ok := Get(good[:at] + bad + good[at:]); ok || got != nil {
				t.Errorf("P8.1: Get with %x at %d: %d cells, %v", bad, at, len(got), ok)
			}
		}
	}
}

func TestGetOfMoreThanMayBe(t *testing.T) {
	for _, x := range []struct {
		s string
		n int
	}{{"\x3f", 15}, {"\x3f", 16}, {"\xff", 253}, {"\xc0", 1000}, {"\x40", 1001}, {"\x7f", 100000}} {
		got, ok := Get(strings.Repeat(x.s, x.n))
		c := api.Cell{State: int(x.s[0]) / 64, Run: int(x.s[0])%64 + 1}
		if !ok || !same(got, slices.Repeat(cells{c}, x.n)) {
			t.Errorf("P8.1: Get of %d times %x: %d cells, %v", x.n, x.s, len(got), ok)
		}
		mayAll(t, got, c.Run*x.n <= 1000)
	}
	if got, ok := Get(strings.Repeat("\x3f", 100000) + "\x80"); ok || got != nil {
		t.Errorf("P8.1: Get of many and one that is none: %d cells, %v", len(got), ok)
	}
}

func TestThereAndBack(t *testing.T) {
	r := rand.New(rand.NewSource(9))
	most := 0
	for range 2000 {
		cs := throw(r, r.Intn(990), 1)
		for range 10 {
			if len(cs) > 0 {
				cs[r.Intn(len(cs))].Run++
			}
		}
		texts := Put(cs...)
		most = max(most, len(texts))
		var back cells
		for _, s := range texts {
			part, ok := Get(s)
			if !ok {
				t.Fatalf("P8.1: Get %x", s)
			}
			back = append(back, part...)
		}
		whole, ok := Get(strings.Join(texts, ""))
		if !ok || !same(back, cs) || !same(whole, cs) {
			t.Fatalf("P8.1: %v is %v when it is back", cs, back)
		}
	}
	if most != 4 {
		t.Errorf("the longest of the thrown has %d texts", most)
	}
}

func TestOf(t *testing.T) {
	for _, x := range []struct {
		name   string
		states []int
		want   cells
	}{
		{"one got", []int{0}, cells{{State: 0, Run: 1}}},
		{"one marked", []int{1}, cells{{State: 1, Run: 1}}},
		{"one lost", []int{3}, cells{{State: 3, Run: 1}}},
		{"by turns", []int{0, 1, 0, 3, 1, 3}, cells{{State: 0, Run: 1}, {State: 1, Run: 1}, {State: 0, Run: 1}, {State: 3, Run: 1}, {State: 1, Run: 1}, {State: 3, Run: 1}}},
		{"runs", []int{3, 3, 3, 0, 0, 1, 3}, cells{{State: 3, Run: 3}, {State: 0, Run: 2}, {State: 1, Run: 1}, {State: 3, Run: 1}}},
		{"63", slices.Repeat([]int{0}, 63), cells{{State: 0, Run: 63}}},
		{"64", slices.Repeat([]int{1}, 64), cells{{State: 1, Run: 64}}},
		{"65", slices.Repeat([]int{0}, 65), cells{{State: 0, Run: 64}, {State: 0, Run: 1}}},
		{"128 and another", append(slices.Repeat([]int{3}, 128), 0), cells{{State: 3, Run: 64}, {State: 3, Run: 64}, {State: 0, Run: 1}}},
		{"129 behind another", append([]int{1}, slices.Repeat([]int{0}, 129)...), cells{{State: 1, Run: 1}, {State: 0, Run: 64}, {State: 0, Run: 64}, {State: 0, Run: 1}}},
	} {
		if got := Of(x.states...); !same(got, x.want) {
			t.Errorf("P8.1, %s: Of %v", x.name, got)
		}
	}
}

func TestOfEachNumber(t *testing.T) {
	for _, s := range append(upTo(300), odd...) {
		got := Of(s)
		if goodState(s) && !same(got, cells{{State: s, Run: 1}}) || !goodState(s) && got != nil {
			t.Errorf("P8.1: Of %d: %v", s, got)
		}
		if goodState(s) {
			continue
		}
		good := append(slices.Repeat([]int{0}, 65), 1, 1, 3)
		for _, at := range []int{0, 1, 64, 65, 66, 67, 68} {
			if got := Of(slices.Insert(slices.Clone(good), at, s)...); got != nil {
				t.Errorf("P8.1: Of with %d at %d: %v", s, at, got)
			}
		}
	}
}

func TestOfShortLists(t *testing.T) {
	var lists func(states []int)
	lists = func(states []int) {
		got := Of(states...)
		if !same(got, wantOf(states)) || !same(Spread(got), states) {
			t.Errorf("P8.1: Of %v: %v", states, got)
		}
		if len(states) < 7 {
			for _, s := range []int{0, 1, 3} {
				lists(append(slices.Clone(states), s))
			}
		}
	}
	lists(nil)
}

func TestOfThrown(t *testing.T) {
	r := rand.New(rand.NewSource(10))
	for range 3000 {
		var states []int
		for range r.Intn(7) {
			states = append(states, slices.Repeat([]int{[]int{0, 1, 3}[r.Intn(3)]}, r.Intn(140))...)
		}
		got := Of(states...)
		if !same(got, wantOf(states)) || !same(Spread(got), states) {
			t.Fatalf("P8.1: Of %v: %v", states, got)
		}
	}
}

func TestOfMoreThanMayBe(t *testing.T) {
	for _, n := range []int{999, 1000, 1001, 1024, 100000} {
		for _, states := range [][]int{slices.Repeat([]int{3}, n), slices.Repeat([]int{0, 1, 3}, n)} {
			got := Of(states...)
			if !same(got, wantOf(states)) {
				t.Errorf("P8.1: Of %d states: %d cells", len(states), len(got))
			}
			mayAll(t, got, len(states) <= 1000)
		}
	}
}

func TestSpread(t *testing.T) {
	for _, x := range []struct {
		cs   cells
		want []int
	}{
		{cells{{State: 3, Run: 1}}, []int{3}},
		{cells{{State: 0, Run: 2}, {State: 3, Run: 1}, {State: 1, Run: 3}}, []int{0, 0, 3, 1, 1, 1}},
		{cells{{State: 1, Run: 1}, {State: 1, Run: 2}}, []int{1, 1, 1}},
		{cells{{State: 0, Run: 64}}, make([]int, 64)},
	} {
		if got := Spread(x.cs); !same(got, x.want) {
			t.Errorf("P8.1: Spread %v: %v", x.cs, got)
		}
	}
}

func TestMerge(t *testing.T) {
	const got, mark, lost = api.CGot, api.CMark, api.CLost
	for _, x := range []struct{ a, b, want int }{
		{got, got, got}, {got, mark, mark}, {got, lost, got},
		{mark, got, mark}, {mark, mark, mark}, {mark, lost, mark},
		{lost, got, got}, {lost, mark, mark}, {lost, lost, lost},
	} {
		if s, ok := Merge(x.a, x.b); s != x.want || !ok {
			t.Errorf("P8.2: Merge %d, %d: %d, %v", x.a, x.b, s, ok)
		}
	}
}

func TestMergeOfWhatMayNotBe(t *testing.T) {
	all := append(upTo(300), odd...)
	for _, a := range all {
		for _, b := range all {
			if goodState(a) && goodState(b) {
				continue
			}
			if s, ok := Merge(a, b); s != 0 || ok {
				t.Errorf("P8.2: Merge %d, %d: %d, %v", a, b, s, ok)
			}
		}
	}
}

func TestListsStay(t *testing.T) {
	room := cells{{State: 0, Run: 3}, {State: 0, Run: 64}, {State: 2, Run: 9}, {State: 3, Run: 65}}
	was := slices.Clone(room)
	for n := range len(room) + 1 {
		May(room[:n])
		Put(room[:n]...)
		Spread(room[:n])
	}
	if !reflect.DeepEqual(room, was) {
		t.Errorf("P0.3: the cells are %v", room)
	}
	states := []int{0, 0, 3, 1, 2, 7}
	wasStates := slices.Clone(states)
	for n := range len(states) + 1 {
		Of(states[:n]...)
	}
	if !slices.Equal(states, wasStates) {
		t.Errorf("P0.3: the states are %v", states)
	}
}

func TestListsAreNotKept(t *testing.T) {
	cs, states := fill(300), slices.Repeat([]int{0, 3, 3}, 90)
	texts, spread, of := Put(cs...), Spread(cs), Of(states...)
	wantT, wantS, wantO := wantTexts(cs), wantSpread(cs), wantOf(states)
	clear(cs)
	for i := range states {
		states[i] = 1
	}
	if !same(texts, wantT) || !same(spread, wantS) || !same(of, wantO) {
		t.Error("P0.3: an answer hangs on the list that was handed in")
	}
}

func TestAnswersAreTheirOwn(t *testing.T) {
	cs, states, s := slices.Repeat(cells{{State: 3, Run: 1}, {State: 0, Run: 2}}, 300), []int{0, 0, 3, 1, 1}, "\x01\x41\xc1"
	spoilAll := func() {
		texts, spread, of := Put(cs...), Spread(cs), Of(states...)
		get, _ := Get(s)
		for i := range texts[:cap(texts)] {
			texts[:cap(texts)][i] = "spoilt"
		}
		for i := range spread[:cap(spread)] {
			spread[:cap(spread)][i] = -1
		}
		for _, l := range []cells{of, get} {
			for i := range l[:cap(l)] {
				l[:cap(l)][i] = api.Cell{State: -1, Run: -1}
			}
		}
	}
	texts, spread, of := Put(cs...), Spread(cs), Of(states...)
	get, _ := Get(s)
	for range 2 {
		spoilAll()
		again, _ := Get(s)
		if !same(texts, wantTexts(cs)) || !same(spread, wantSpread(cs)) || !same(of, wantOf(states)) || !same(get, again) {
			t.Error("P0.3: an answer changed when another one did")
		}
		texts, spread, of, get = Put(cs...), Spread(cs), Of(states...), again
	}
	if !same(get, cells{{State: 0, Run: 2}, {State: 1, Run: 2}, {State: 3, Run: 2}}) {
		t.Errorf("P0.3: Get %v", get)
	}
}

func TestLong(t *testing.T) {
	many := slices.Repeat(cells{{State: 0, Run: 1}}, 300000)
	mayAll(t, many, false)
	mayAll(t, append(many, api.Cell{State: 2, Run: 1}), false)
}
