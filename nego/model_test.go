package nego

import (
	"fmt"
	"math/rand"
	"slices"
	"strings"
	"testing"

	"muleteer/api"
)

// model is a second reckoning, from the chapter's words: it keeps texts, and knows of features by itself.
type model struct {
	server                    bool
	asks, likes, mine, theirs map[int]string
	due                       string
}

func newModel(server bool) *model {
	m := &model{server: server, asks: map[int]string{}, likes: map[int]string{}, mine: map[int]string{}, theirs: map[int]string{}}
	for f, v := range defaults {
		m.likes[f], m.mine[f], m.theirs[f] = values[f], v, v
	}
	return m
}

func isWindow(v string) bool {
	return len(v) == 6 && v[:4] == "\x00\x00\x00\x00" && v[4:] >= "\x00\x20" && v[4:] <= "\x03\xe8"
}

// mayAsk sorts a list, so that what is there twice stands beside itself.
func mayAsk(f int, v string) bool {
	if f == api.FWindow {
		return isWindow(v)
	}
	b := []byte(v)
	slices.Sort(b)
	for i, x := range b {
		if !strings.Contains(values[f], byteText(int(x))) || i > 0 && b[i-1] == x {
			return false
		}
	}
	return len(b) > 0
}

func (m *model) tell(into map[int]string, f int, v string) api.Errno {
	if defaults[f] == "" {
		return api.ErrNone
	}
	if !mayAsk(f, v) {
		return api.ErrForm
	}
	into[f] = v
	return api.OK
}

func (m *model) opts() string {
	out := m.due
	m.due = ""
	for _, f := range features {
		if v, ok := m.asks[f]; ok {
			out += fmt.Sprintf("32:%02x%x ", f, v)
		}
	}
	return out
}

// settle is what stands behind f in the answer.
func (m *model) settle(f int, v string) string {
	if !mayAsk(f, v) {
		return ""
	}
	if f == api.FWindow {
		m.theirs[f] = v
		return v
	}
	value := chosen(v, m.likes[f])
	if m.server {
		value = chosen(m.likes[f], v)
	}
	if value == "" {
		return ""
	}
	m.theirs[f] = value
	return value + m.likes[f]
}

func (m *model) confirm(f int, v string) bool {
	list, asked := m.asks[f]
	switch {
	case !asked:
		return true
	case v == "":
	case f == api.FWindow && v == list, f != api.FWindow && strings.Contains(list, v[:1]):
		m.mine[f] = v
		if f != api.FWindow {
			m.mine[f] = v[:1]
		}
	default:
		return false
	}
	delete(m.asks, f)
	return true
}

func (m *model) take(os []api.Opt) bool {
	ahead := -1
	for _, x := range os {
		need := ahead == 1
		ahead = x.Type
		if 32 <= x.Type && x.Type <= 35 && x.Data == "" || need && !known(x.Type) {
			return false
		}
		switch x.Type {
		case 32:
			f := int(x.Data[0])
			more := m.settle(f, x.Data[1:])
			if more == "" && need {
				return false
			}
			m.due += fmt.Sprintf("35:%02x%x ", f, more)
		case 34:
			if need {
				return false
			}
			m.due += fmt.Sprintf("33:%02x ", x.Data[0])
		case 35:
			if !m.confirm(int(x.Data[0]), x.Data[1:]) {
				return false
			}
		}
	}
	return true
}

// same holds what n tells against m, but for Opts, which would let the answers go.
func same(n *Nego, m *model) bool {
	if n.Done() != (len(m.asks) == 0) {
		return false
	}
	for f := range 10 {
		if n.Mine(f) != m.mine[f] || n.Theirs(f) != m.theirs[f] {
			return false
		}
	}
	return true
}

// telling are options of which short lists meet most of what Take does.
var telling = []api.Opt{
	must,
	{Type: 0}, {Type: 2}, {Type: 38, Data: "x"}, {Type: 44},
	{Type: 32}, {Type: 33}, {Type: 34}, {Type: 35},
	{Type: 32, Data: "\x01\x03\x02"}, {Type: 32, Data: "\x01\x04"}, {Type: 32, Data: "\x03\x00\x00\x00\x00\x00\x28"}, {Type: 32, Data: "\x05\x01"}, {Type: 32, Data: "\x08"}, {Type: 32, Data: "\x08\x0f\x05"},
	{Type: 33, Data: "\x01\x03"}, {Type: 34, Data: "\x01\x03"},
	{Type: 35, Data: "\x01"}, {Type: 35, Data: "\x01\x03\x02"}, {Type: 35, Data: "\x01\x02"}, {Type: 35, Data: "\x03\x00\x00\x00\x00\x00\xc8"}, {Type: 35, Data: "\x03\x00"}, {Type: 35, Data: "\x07\x01"},
}

func TestShortListsAgainstModel(t *testing.T) {
	var lists [][]api.Opt
	for _, a := range telling {
		lists = append(lists, []api.Opt{a})
		for _, b := range telling {
			lists = append(lists, []api.Opt{a, b})
			for _, c := range telling {
				lists = append(lists, []api.Opt{a, b, c})
			}
		}
	}
	for _, os := range lists {
		for set := range 8 {
			n, m := New(set&1 > 0), newModel(set&1 > 0)
			if set&2 > 0 {
				n.Want(1, "\x03")
				m.tell(m.asks, 1, "\x03")
				n.Want(3, window(200))
				m.tell(m.asks, 3, window(200))
			}
			if set&4 > 0 {
				n.Like(1, "\x02")
				m.tell(m.likes, 1, "\x02")
				n.Like(8, "\x07\x05\x0f")
				m.tell(m.likes, 8, "\x07\x05\x0f")
			}
			if got, want := n.Take(os), m.take(os); got != want || !same(n, m) {
				t.Fatalf("P19.2: set %d, Take %s: %v, not %v", set, text(os), got, want)
			}
			if got, want := text(n.Opts()), m.opts(); got != want {
				t.Fatalf("P19.2: set %d, Take %s: Opts %s, not %s", set, text(os), got, want)
			}
		}
	}
}

// thrownValue is something that may be asked for, or almost.
func thrownValue(r *rand.Rand, f int) string {
	v := ""
	switch {
	case f == api.FWindow:
		v = window([]int{31, 32, 100, 200, 200, 1000, 1001}[r.Intn(7)])
	case values[f] != "":
		v = thrownList(r, f)
	}
	switch r.Intn(10) {
	case 0:
		v = ""
	case 1:
		v += byteText(r.Intn(20))
	case 2:
		v = v[:len(v)/2]
	}
	return v
}

func thrownFeature(r *rand.Rand) int {
	if r.Intn(10) == 0 {
		return r.Intn(256)
	}
	return features[r.Intn(4)]
}

func thrownOpt(r *rand.Rand) api.Opt {
	switch r.Intn(12) {
	case 0:
		return must
	case 1:
		return api.Opt{Type: r.Intn(300) - 20}
	case 2:
		return api.Opt{Type: []int{38, 39, 43, 193, 194}[r.Intn(5)], Data: "\x01\x03"}
	}
	f := thrownFeature(r)
	x := api.Opt{Type: []int{32, 32, 35, 35, 35, 33, 34}[r.Intn(7)], Data: byteText(f) + thrownValue(r, f)}
	if r.Intn(40) == 0 {
		x.Data = ""
	}
	return x
}

func TestThrownAgainstModel(t *testing.T) {
	r := rand.New(rand.NewSource(2))
	taken, refused, agreed := 0, 0, 0
	for range 600 {
		server := r.Intn(2) == 0
		n, m := New(server), newModel(server)
		for step := range 200 {
			f := thrownFeature(r)
			if r.Intn(20) == 0 {
				f = others[r.Intn(len(others))]
			}
			v := thrownValue(r, f)
			got, want := "", ""
			switch r.Intn(5) {
			case 0:
				got, want = fmt.Sprint(n.Want(f, v)), fmt.Sprint(m.tell(m.asks, f, v))
			case 1:
				got, want = fmt.Sprint(n.Like(f, v)), fmt.Sprint(m.tell(m.likes, f, v))
			case 2:
				got, want = text(n.Opts()), m.opts()
			default:
				var os []api.Opt
				for range r.Intn(5) {
					os = append(os, thrownOpt(r))
				}
				ok := n.Take(os)
				if got, want = fmt.Sprint(ok), fmt.Sprint(m.take(os)); ok {
					taken++
				} else {
					refused++
				}
			}
			if got != want || !same(n, m) {
				t.Fatalf("P19.2: step %d: %s, not %s", step, got, want)
			}
			if n.Mine(8) != "\x00" && n.Theirs(3) != window(100) {
				agreed++
			}
		}
	}
	if taken < 10000 || refused < 5000 || agreed < 10000 {
		t.Errorf("%d were taken, %d refused, at %d steps there was much agreed on", taken, refused, agreed)
	}
}
