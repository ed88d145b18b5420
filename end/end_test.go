package end

import (
	"fmt"
	"math"
	"slices"
	"strings"
	"testing"

	"muleteer/api"
	"muleteer/ctrl"
	"muleteer/opt"
	"muleteer/pkt"
)

const max48 = 1<<48 - 1

// setup is of 1,000 bytes and a window of 100; a client begins with 100, a server with 5000.
func setup(server bool, ccids ...int) api.Setup {
	s := api.Setup{Server: server, Iss: 100, Src: 5, Dst: 6, Service: 77, Ccids: ccids, Size: 1000, Window: 100}
	if server {
		s.Iss = 5000
	}
	return s
}

// told tells packets by type, number and acknowledged one.
func told(l []string) string {
	var out []string
	for _, b := range l {
		p, errno := pkt.Get(b)
		h := p.Head
		if errno != api.OK || !h.X || h.Src != 5 || h.Dst != 6 || h.CCVal != 0 || h.CsCov != 0 || h.Info != [3]byte{} {
			return fmt.Sprintf("bad: %x", b)
		}
		out = append(out, fmt.Sprintf("%d:%d:%d", h.Type, h.Seq, h.Ack))
	}
	return strings.Join(out, " ")
}

// show tells packets whole.
func show(l []string) string {
	var out []string
	for _, b := range l {
		text := told([]string{b})
		p, _ := pkt.Get(b)
		if p.Head.Service != 0 {
			text += fmt.Sprintf(" for %d", p.Head.Service)
		}
		if p.Head.Code != 0 {
			text += fmt.Sprintf(" code %d", p.Head.Code)
		}
		for _, o := range p.Opts {
			text += fmt.Sprintf(" %d=%x", o.Type, o.Data)
		}
		if p.Data != "" {
			text += " " + p.Data
		}
		out = append(out, text)
	}
	return strings.Join(out, "; ")
}

// from is a packet of the other end.
func from(t int, s, a uint64, data string, os ...api.Opt) string {
	h := api.Head{Src: 6, Dst: 5, Type: t, X: true, Seq: s, Ack: a}
	if t == api.TRequest || t == api.TResponse {
		h.Service = 77
	}
	return bytesOf(api.Pkt{Head: h, Opts: os, Data: data})
}

func bytesOf(p api.Pkt) string {
	b, errno := pkt.Put(p)
	if errno != api.OK {
		panic(fmt.Sprintf("a packet of the test's can't be: %d, %v", errno, p))
	}
	return b
}

// vector tells of n numbers that they were got.
func vector(n int) api.Opt { return cells(n - 1) }

// cells is a vector of these bytes.
func cells(bs ...int) api.Opt {
	b := make([]byte, len(bs))
	for i, x := range bs {
		b[i] = byte(x)
	}
	return api.Opt{Type: api.OVector0, Data: string(b)}
}

func o(t int, data string) api.Opt { return api.Opt{Type: t, Data: data} }

var must = api.Opt{Type: api.OMandatory}

// confirms answers all that an end asks for.
func confirms(ccid int) []api.Opt {
	return []api.Opt{o(api.OConfirmR, "\x01"+string([]byte{byte(ccid)})), o(api.OConfirmR, "\x03"+opt.Bytes(100, 6)), o(api.OConfirmR, "\x06\x01")}
}

// asks is what an end of setup asks for by the first one of its Ccids, as show tells it.
const asks2 = " 32=0102 32=03000000000064 32=0601"

func opened(t *testing.T, s api.Setup) *End {
	t.Helper()
	e := New(s)
	if _, errno := e.Open(0); errno != api.OK {
		t.Fatalf("P24.1: Open: %d", errno)
	}
	return e
}

// client is a client that is open and asks for nothing: 100 and 101 are sent, 5000 and 5001 got, at 2000.
func client(t *testing.T, ccid int) *End {
	t.Helper()
	e := opened(t, setup(false, ccid))
	recv(t, e, 1000, from(api.TResponse, 5000, 100, "", confirms(ccid)...), "3:101:5000", api.SPartOpen)
	recv(t, e, 2000, from(api.TAck, 5001, 101, "", vector(1)), "", api.SOpen)
	return e
}

// server is a server that is open and asks for nothing: 5000 and 5001 are sent, 100 and 101 got, at 2000.
func server(t *testing.T, ccid int) *End {
	t.Helper()
	e := opened(t, setup(true, ccid))
	recv(t, e, 1000, from(api.TRequest, 100, 0, ""), "1:5000:100", api.SRespond)
	recv(t, e, 2000, from(api.TAck, 101, 5000, "", append(confirms(ccid), vector(1))...), "", api.SOpen)
	return e
}

// recv hands b to e, and holds what is told against want.
func recv(t *testing.T, e *End, now int64, b, want string, state int) {
	t.Helper()
	if got := told(e.Recv(now, b)); got != want || e.State() != state {
		t.Fatalf("P24.1: Recv tells %q in state %d, not %q in %d", got, e.State(), want, state)
	}
}

func holdDue(t *testing.T, e *End, want int64) {
	t.Helper()
	if at, ok := e.Due(); !ok || at != want {
		t.Fatalf("P24.1: Due %d, %v, not %d", at, ok, want)
	}
}

func holdNoDue(t *testing.T, e *End) {
	t.Helper()
	if at, ok := e.Due(); ok || at != 0 {
		t.Fatalf("P24.1: Due %d, %v, though nothing is due", at, ok)
	}
}

// submit hands n bytes to e.
func submit(t *testing.T, e *End, now int64, d, want string) {
	t.Helper()
	l, errno := e.Submit(now, d)
	if got := told(l); errno != api.OK || got != want {
		t.Fatalf("P24.1: Submit tells %q, %d, not %q", got, errno, want)
	}
}

func clock(t *testing.T, e *End, now int64, want string) {
	t.Helper()
	if got := told(e.Clock(now)); got != want {
		t.Fatalf("P24.1: Clock at %d tells %q, not %q", now, got, want)
	}
}

func TestMay(t *testing.T) {
	for k, x := range []struct {
		turn func(s *api.Setup)
		want bool
	}{
		{func(s *api.Setup) {}, true},
		{func(s *api.Setup) { s.Server = true }, true},
		{func(s *api.Setup) { s.Iss = 0 }, true},
		{func(s *api.Setup) { s.Iss = max48 }, true},
		{func(s *api.Setup) { s.Iss = max48 + 1 }, false},
		{func(s *api.Setup) { s.Iss = math.MaxUint64 }, false},
		{func(s *api.Setup) { s.Src, s.Dst = 0, 0 }, true},
		{func(s *api.Setup) { s.Src, s.Dst = 65535, 65535 }, true},
		{func(s *api.Setup) { s.Src = -1 }, false},
		{func(s *api.Setup) { s.Dst = -1 }, false},
		{func(s *api.Setup) { s.Src = 65536 }, false},
		{func(s *api.Setup) { s.Dst = 65536 }, false},
		{func(s *api.Setup) { s.Src = math.MinInt }, false},
		{func(s *api.Setup) { s.Dst = math.MaxInt }, false},
		{func(s *api.Setup) { s.Service = 0 }, true},
		{func(s *api.Setup) { s.Service = math.MaxUint32 }, true},
		{func(s *api.Setup) { s.Ccids = []int{3} }, true},
		{func(s *api.Setup) { s.Ccids = []int{2, 3} }, true},
		{func(s *api.Setup) { s.Ccids = []int{3, 2} }, true},
		{func(s *api.Setup) { s.Ccids = nil }, false},
		{func(s *api.Setup) { s.Ccids = []int{} }, false},
		{func(s *api.Setup) { s.Ccids = []int{2, 2} }, false},
		{func(s *api.Setup) { s.Ccids = []int{3, 3} }, false},
		{func(s *api.Setup) { s.Ccids = []int{2, 3, 2} }, false},
		{func(s *api.Setup) { s.Ccids = []int{2, 3, 4} }, false},
		{func(s *api.Setup) { s.Ccids = []int{1} }, false},
		{func(s *api.Setup) { s.Ccids = []int{4} }, false},
		{func(s *api.Setup) { s.Ccids = []int{2, 4} }, false},
		{func(s *api.Setup) { s.Ccids = []int{2, 259} }, false},
		{func(s *api.Setup) { s.Ccids = []int{258} }, false},
		{func(s *api.Setup) { s.Ccids = []int{-254} }, false},
		{func(s *api.Setup) { s.Ccids = []int{math.MinInt + 2} }, false},
		{func(s *api.Setup) { s.Ccids = make([]int, 1000) }, false},
		{func(s *api.Setup) { s.Size = 1 }, true},
		{func(s *api.Setup) { s.Size = 1400 }, true},
		{func(s *api.Setup) { s.Size = 0 }, false},
		{func(s *api.Setup) { s.Size = 1401 }, false},
		{func(s *api.Setup) { s.Size = -1 }, false},
		{func(s *api.Setup) { s.Window = 32 }, true},
		{func(s *api.Setup) { s.Window = 1000 }, true},
		{func(s *api.Setup) { s.Window = 31 }, false},
		{func(s *api.Setup) { s.Window = 1001 }, false},
		{func(s *api.Setup) { s.Window = 1<<48 + 100 }, false},
		{func(s *api.Setup) { s.Window = math.MinInt + 100 }, false},
	} {
		s := setup(false, 2)
		x.turn(&s)
		if got := May(s); got != x.want || (New(s) != nil) != x.want {
			t.Errorf("P24.1, %d: May of %v: %v", k, s, got)
		}
	}
	if May(api.Setup{}) || New(api.Setup{}) != nil {
		t.Error("P24.1: May of nothing")
	}
}

func TestNew(t *testing.T) {
	for _, s := range []api.Setup{setup(false, 3, 2), setup(true, 2)} {
		e := New(s)
		if v := e.View(); v != (api.View{Mine: 100, Theirs: 100}) || e.State() != api.SClosed || e.Control() != nil {
			t.Errorf("P24.1: New: %v", v)
		}
		if len(e.Taken()) != 0 || e.Waiting() != 0 || e.Dropped() != 0 {
			t.Error("P24.1: New has something")
		}
		if e.Mine(api.FCcid) != "\x02" || e.Theirs(api.FCcid) != "\x02" || e.Mine(api.FWindow) != opt.Bytes(100, 6) || e.Theirs(api.FVector) != "\x00" || e.Mine(2) != "" || e.Theirs(-1) != "" {
			t.Error("P24.1: Mine, Theirs of New")
		}
		holdNoDue(t, e)
		clock(t, e, 5, "")
		if l, errno := e.Submit(6, "x"); errno != api.ErrState || len(l) != 0 || e.Waiting() != 0 {
			t.Error("P24.1: Submit ahead of Open")
		}
		if l, errno := e.Close(7); errno != api.ErrState || len(l) != 0 {
			t.Error("P24.1: Close ahead of Open")
		}
		for kind := range 10 {
			if len(e.Recv(8, from(kind, 5000, ackOf(kind, 100), ""))) != 0 || e.Dropped() != kind+1 {
				t.Errorf("P24.1: Recv of a %d ahead of Open", kind)
			}
		}
		if v := e.View(); v != (api.View{Mine: 100, Theirs: 100}) {
			t.Errorf("P24.1: ahead of Open: %v", v)
		}
	}
}

// ackOf is a where a packet of type t has an Ack.
func ackOf(t int, a uint64) uint64 {
	if t == api.TRequest || t == api.TData {
		return 0
	}
	return a
}

func TestSetupIsNotKept(t *testing.T) {
	list := []int{3, 2, 2, 2}
	s := setup(false, list[:2]...)
	e := New(s)
	list[0], list[1] = 2, 3
	s.Window = 50
	l, _ := e.Open(0)
	if got := show(l); got != "0:100:0 for 77 32=010302 32=03000000000064 32=0601" {
		t.Errorf("P0.3: Open tells %s", got)
	}
	list = []int{3, 2, 9}
	May(setup(false, list[:2]...))
	New(setup(true, list[:2]...))
	if !slices.Equal(list, []int{3, 2, 9}) {
		t.Errorf("P0.3: the Ccids are changed: %v", list)
	}
}

func TestOpen(t *testing.T) {
	s := setup(false, 3, 2)
	s.Service, s.Window, s.Iss = 4294967295, 1000, max48
	e := New(s)
	l, errno := e.Open(10)
	if got := show(l); errno != api.OK || got != "0:281474976710655:0 for 4294967295 32=010302 32=030000000003e8 32=0601" {
		t.Errorf("P24.1: Open tells %s", got)
	}
	if v := e.View(); v != (api.View{State: api.SRequest, Gss: max48, Gar: max48, Iss: max48, Mine: 100, Theirs: 100}) {
		t.Errorf("P24.1: View behind Open: %v", v)
	}
	if l, errno := e.Open(11); errno != api.ErrState || len(l) != 0 {
		t.Error("P24.1: Open again")
	}
	at := int64(10)
	for k, wait := range []int64{1, 2, 4, 8, 16, 32, 64, 64, 64} {
		at += 1000000 * wait
		holdDue(t, e, at)
		clock(t, e, at-1, "")
		want := fmt.Sprintf("0:%d:0 for 4294967295 32=010302 32=030000000003e8 32=0601", k)
		if got := show(e.Clock(at)); got != want {
			t.Errorf("P24.1, %d: it goes again as %s", k, got)
		}
		clock(t, e, at, "")
	}
	// It is late: it goes once, and twice as long counts from then on.
	e = opened(t, setup(false, 2))
	clock(t, e, 7500000, "0:101:0")
	holdDue(t, e, 9500000)
	clock(t, e, 9499999, "")
	clock(t, e, 9500000, "0:102:0")
	holdDue(t, e, 13500000)
}

func TestOpenOfAServer(t *testing.T) {
	e := New(setup(true, 2))
	if l, errno := e.Open(3); errno != api.OK || len(l) != 0 {
		t.Error("P24.1: Open of a server tells something")
	}
	if v := e.View(); v.State != api.SListen || v.Iss != 5000 || v.Gar != 5000 || v.Gsr != 0 || v.Isr != 0 || v.Mine != 100 || v.Theirs != 100 {
		t.Errorf("P24.1: View of a server: %v", v)
	}
	holdNoDue(t, e)
	clock(t, e, 99000000, "")
	if _, errno := e.Open(99000000); errno != api.ErrState {
		t.Error("P24.1: Open of a server again")
	}
}

// Open is refused in each state but the first, also where it is closed again.
func TestOpenOnce(t *testing.T) {
	for name, e := range inStates(t) {
		state := e.State()
		if l, errno := e.Open(1000000000); errno != api.ErrState || len(l) != 0 || e.State() != state {
			t.Errorf("P24.1: Open again, %s: %d", name, errno)
		}
	}
}

// inStates are ends that were opened, in each state.
func inStates(t *testing.T) map[string]*End {
	t.Helper()
	ends := map[string]*End{
		"listen":    opened(t, setup(true, 2)),
		"request":   opened(t, setup(false, 2)),
		"respond":   opened(t, setup(true, 2)),
		"part open": opened(t, setup(false, 2)),
		"client":    client(t, 2),
		"server":    server(t, 2),
		"close req": server(t, 2),
		"closing":   client(t, 2),
		"time wait": client(t, 2),
		"closed":    client(t, 2),
		"given up":  opened(t, setup(false, 2)),
	}
	recv(t, ends["respond"], 1000, from(api.TRequest, 100, 0, ""), "1:5000:100", api.SRespond)
	recv(t, ends["part open"], 1000, from(api.TResponse, 5000, 100, "", confirms(2)...), "3:101:5000", api.SPartOpen)
	for _, name := range []string{"close req", "closing", "time wait", "given up"} {
		if _, errno := ends[name].Close(3000); errno != api.OK {
			t.Fatalf("P24.1: Close, %s: %d", name, errno)
		}
	}
	recv(t, ends["time wait"], 4000, from(api.TReset, 5002, 102, ""), "", api.STimeWait)
	recv(t, ends["closed"], 4000, from(api.TClose, 5002, 101, ""), "7:102:5002", api.SClosed)
	return ends
}

func TestListen(t *testing.T) {
	e := opened(t, setup(true, 2))
	before := e.View()
	for kind := 1; kind < 10; kind++ {
		recv(t, e, 5, from(kind, 7, ackOf(kind, 5000), ""), "", api.SListen)
		if e.Dropped() != kind || e.View() != before {
			t.Errorf("P24.1: a %d in SListen: Dropped %d, %v", kind, e.Dropped(), e.View())
		}
	}
	// Of another service: its Ack that number, its own the next one, and nothing else.
	for k, n := range []uint64{99, max48, 0} {
		b := bytesOf(api.Pkt{Head: api.Head{Type: api.TRequest, X: true, Seq: n, Service: 78}, Opts: []api.Opt{o(api.OChangeL, "\x01\x03"), o(api.OChangeL, "\x03"+opt.Bytes(500, 6))}})
		if got := show(e.Recv(6, b)); got != fmt.Sprintf("7:%d:%d code 8", 5000+k, n) || e.State() != api.SListen {
			t.Errorf("P24.1: another service: %s", got)
		}
		want := before
		want.Gss = 5000 + uint64(k)
		if e.View() != want || e.Theirs(api.FCcid) != "\x02" || e.Dropped() != 9 {
			t.Errorf("P24.1: another service changes %v", e.View())
		}
	}
	holdNoDue(t, e)
	// The options of what was refused are not answered either.
	b := from(api.TRequest, max48, 0, "", o(api.OChangeL, "\x06\x00"), o(api.OChangeL, "\x03"+opt.Bytes(40, 6)), o(api.OChangeL, "\x07\x01"))
	if got := show(e.Recv(7, b)); got != "1:5003:281474976710655 for 77 35=06000001 35=03000000000028 35=07"+asks2 {
		t.Errorf("P24.1: a Response: %s", got)
	}
	if v := e.View(); v != (api.View{State: api.SRespond, Gss: 5003, Gsr: max48, Gar: 5000, Iss: 5000, Isr: max48, Mine: 100, Theirs: 40}) {
		t.Errorf("P24.1: a Request: %v", v)
	}
	if e.Control() != nil || e.Theirs(api.FWindow) != opt.Bytes(40, 6) || e.Mine(api.FWindow) != opt.Bytes(100, 6) {
		t.Error("P24.1: a Request: what was agreed on")
	}
	holdNoDue(t, e)
	clock(t, e, 99000000, "")
}

// A Request without a service of its own, where the end has none, too.
func TestListenForNoService(t *testing.T) {
	s := setup(true, 3)
	s.Service = 0
	e := opened(t, s)
	b := bytesOf(api.Pkt{Head: api.Head{Type: api.TRequest, X: true, Seq: 1}})
	if got := show(e.Recv(7, b)); got != "1:5000:1 32=0103 32=03000000000064 32=0601" {
		t.Errorf("P24.1: a Response: %s", got)
	}
}

func TestRespond(t *testing.T) {
	e := opened(t, setup(true, 2))
	ask := o(api.OChangeL, "\x01\x02")
	recv(t, e, 1, from(api.TRequest, 100, 0, "", ask), "1:5000:100", api.SRespond)
	// One that comes again, behind and ahead of the ones that came; but not ahead of the first one, nor far off.
	for k, x := range []struct {
		n    uint64
		want string
		gsr  uint64
	}{
		{103, "1:5001:103 for 77 35=01020203" + asks2, 103},
		{101, "1:5002:101 for 77 35=01020203" + asks2, 103},
		{100, "1:5003:100 for 77 35=01020203" + asks2, 103},
		{99, "8:5004:99", 103},
		{179, "8:5005:179", 103},
		{178, "1:5006:178 for 77 35=01020203" + asks2, 178},
		{153, "8:5007:153", 178},
		{154, "1:5008:154 for 77 35=01020203" + asks2, 178},
	} {
		if got := show(e.Recv(2, from(api.TRequest, x.n, 0, "", ask))); got != x.want || e.State() != api.SRespond || e.View().Gsr != x.gsr || e.View().Isr != 100 {
			t.Errorf("P24.1, %d: a Request again: %s, %v", k, got, e.View())
		}
	}
	if e.View().Gar != 5000 || e.Control() != nil || e.Dropped() != 0 {
		t.Errorf("P24.1: a Request again: %v", e.View())
	}
	// In SRespond another one's service is not looked at any more.
	b := bytesOf(api.Pkt{Head: api.Head{Type: api.TRequest, X: true, Seq: 179, Service: 78}})
	recv(t, e, 3, b, "1:5009:179", api.SRespond)
}

func TestRespondOpens(t *testing.T) {
	for _, x := range []struct {
		name  string
		b     string
		want  string
		state int
	}{
		{"an Ack", from(api.TAck, 101, 5000, ""), "3:5001:101" + asks2 + " 38=00 193=00000000 194=00000000", api.SOpen},
		{"an Ack with a vector", from(api.TAck, 101, 5000, "", vector(1)), "", api.SOpen},
		{"data", from(api.TData, 101, 0, "x"), "3:5001:101" + asks2 + " 38=00 193=00000000 194=000f4240", api.SOpen},
		{"data with an Ack", from(api.TDataAck, 102, 5000, "x"), "3:5001:102" + asks2 + " 38=00 193=00000000 194=000f4240", api.SOpen},
		{"the Request's number", from(api.TAck, 100, 5000, ""), "3:5001:100" + asks2 + " 38=00 193=00000000 194=00000000", api.SOpen},
		{"a Sync", from(api.TSync, 101, 5000, ""), "9:5001:101", api.SRespond},
		{"a SyncAck", from(api.TSyncAck, 101, 5000, ""), "", api.SRespond},
		{"a CloseReq", from(api.TCloseReq, 101, 5000, ""), "", api.SRespond},
		{"a Close", from(api.TClose, 101, 5000, ""), "7:5001:101 code 1", api.SClosed},
		{"a Reset", from(api.TReset, 101, 5000, ""), "", api.SClosed},
		{"an Ack of what was not sent", from(api.TAck, 101, 5001, ""), "8:5001:101", api.SRespond},
		{"an Ack from far", from(api.TAck, 176, 5000, ""), "8:5001:176", api.SRespond},
		{"a Response", from(api.TResponse, 101, 5000, ""), "8:5001:101", api.SRespond},
	} {
		e := opened(t, setup(true, 2))
		recv(t, e, 1, from(api.TRequest, 100, 0, ""), "1:5000:100", api.SRespond)
		if got := show(e.Recv(2, x.b)); got != x.want || e.State() != x.state {
			t.Errorf("P24.1, %s: %s, %d", x.name, got, e.State())
		}
		if (e.Control() != nil) != (x.state == api.SOpen) {
			t.Errorf("P24.1, %s: Control %v", x.name, e.Control())
		}
		if x.state == api.SOpen {
			holdDue(t, e, 1000002)
		} else {
			holdNoDue(t, e)
		}
	}
}

// The vector begins with the newest one that was got, which may lie ahead of the newest Request.
func TestVectorBehindRequests(t *testing.T) {
	e := opened(t, setup(true, 2))
	recv(t, e, 1, from(api.TRequest, 100, 0, ""), "1:5000:100", api.SRespond)
	recv(t, e, 1, from(api.TRequest, 105, 0, ""), "1:5001:105", api.SRespond)
	if got := show(e.Recv(2, from(api.TAck, 102, 5001, ""))); got != "3:5002:102"+asks2+" 38=00 193=00000000 194=00000000" || e.View().Gsr != 105 {
		t.Errorf("P24.1: %s, %v", got, e.View())
	}
	if got := show(e.Recv(2, from(api.TAck, 104, 5001, ""))); got != "3:5003:104"+asks2+" 38=00c000 193=00000000 194=00000000" {
		t.Errorf("P24.1: %s", got)
	}
	// What has no vector tells the greatest one.
	if l, _ := e.Close(3); told(l) != "5:5004:105" {
		t.Errorf("P24.1: %s", told(l))
	}
}

func TestRequest(t *testing.T) {
	for _, x := range []struct {
		name    string
		b       string
		want    string
		state   int
		dropped int
	}{
		{"a Response", from(api.TResponse, 5000, 100, ""), "3:102:5000" + asks2, api.SPartOpen, 0},
		{"a Response to the second Request", from(api.TResponse, 5001, 101, ""), "3:102:5001" + asks2, api.SPartOpen, 0},
		{"a Response to a third one", from(api.TResponse, 5001, 102, ""), "", api.SRequest, 1},
		{"a Response to an earlier one", from(api.TResponse, 5001, 99, ""), "", api.SRequest, 1},
		{"a Reset", from(api.TReset, 5001, 101, ""), "", api.SClosed, 0},
		{"a Reset of another one", from(api.TReset, 5001, 102, ""), "", api.SRequest, 1},
		{"a Request", from(api.TRequest, 5001, 0, ""), "", api.SRequest, 1},
		{"data", from(api.TData, 5001, 0, "x"), "", api.SRequest, 1},
		{"an Ack", from(api.TAck, 5001, 100, ""), "", api.SRequest, 1},
		{"data with an Ack", from(api.TDataAck, 5001, 100, "x"), "", api.SRequest, 1},
		{"a CloseReq", from(api.TCloseReq, 5001, 100, ""), "", api.SRequest, 1},
		{"a Close", from(api.TClose, 5001, 100, ""), "", api.SRequest, 1},
		{"a Sync", from(api.TSync, 5001, 100, ""), "", api.SRequest, 1},
		{"a SyncAck", from(api.TSyncAck, 5001, 100, ""), "", api.SRequest, 1},
		{"options that can't be", from(api.TResponse, 5001, 101, "", must, o(44, "")), "7:102:5001 code 6", api.SClosed, 0},
	} {
		e := opened(t, setup(false, 2))
		clock(t, e, 1000000, "0:101:0")
		if got := show(e.Recv(1000001, x.b)); got != x.want || e.State() != x.state || e.Dropped() != x.dropped {
			t.Errorf("P24.1, %s: %s, %d", x.name, got, e.State())
		}
		switch x.state {
		case api.SRequest:
			holdDue(t, e, 3000000)
			if v := e.View(); v != (api.View{State: api.SRequest, Gss: 101, Gar: 100, Iss: 100, Mine: 100, Theirs: 100}) {
				t.Errorf("P24.1, %s: %v", x.name, v)
			}
		case api.SPartOpen:
			holdDue(t, e, 1200001)
			p, _ := pkt.Get(x.b)
			if v := e.View(); v != (api.View{State: api.SPartOpen, Gss: 102, Gsr: p.Head.Seq, Gar: p.Head.Ack, Iss: 100, Isr: p.Head.Seq, Mine: 100, Theirs: 100}) {
				t.Errorf("P24.1, %s: %v", x.name, v)
			}
		case api.SClosed:
			holdNoDue(t, e)
		}
	}
}

func TestPartOpen(t *testing.T) {
	e := opened(t, setup(false, 2, 3))
	l := e.Recv(1000, from(api.TResponse, 5000, 100, "", o(api.OChangeL, "\x01\x03\x02"), o(api.OConfirmR, "\x06\x01")))
	if got := show(l); got != "3:101:5000 35=01030203 32=010203 32=03000000000064" {
		t.Errorf("P24.1: the first Ack: %s", got)
	}
	if e.Theirs(api.FCcid) != "\x03" || e.Mine(api.FVector) != "\x01" {
		t.Error("P24.1: a Response's options are not taken")
	}
	w, ok := ctrl.Window(e.Control())
	if !ok || w.Cwnd() != 3 {
		t.Error("P24.1: the Control of SPartOpen")
	}
	// Neither of these opens; the Acks that go again have no vector, though some are got.
	recv(t, e, 2000, from(api.TSyncAck, 5002, 101, ""), "", api.SPartOpen)
	recv(t, e, 3000, from(api.TSync, 5003, 101, ""), "9:102:5003", api.SPartOpen)
	recv(t, e, 4000, from(api.TResponse, 5004, 101, ""), "8:103:5004", api.SPartOpen)
	recv(t, e, 4000, from(api.TAck, 5004, 99, ""), "8:104:5004", api.SPartOpen)
	for k := range 10 {
		at := 201000 + 200000*int64(k)
		holdDue(t, e, at)
		clock(t, e, at-1, "")
		if got := show(e.Clock(at)); got != fmt.Sprintf("3:%d:5003 32=010203 32=03000000000064", 105+k) {
			t.Errorf("P24.1, %d: it goes again: %s", k, got)
		}
	}
	// It is late: from then on each 200,000.
	clock(t, e, 3000000, "3:115:5003")
	holdDue(t, e, 3200000)
	if c, _ := ctrl.Window(e.Control()); c != w {
		t.Error("P24.1: the Control of SPartOpen is not the very one")
	}
}

func TestPartOpenOpens(t *testing.T) {
	ack := " 38=00 193=00000000 194=00000000"
	for _, x := range []struct {
		name  string
		b     string
		want  string
		state int
	}{
		{"an Ack with a vector", from(api.TAck, 5001, 101, "", vector(1)), "", api.SOpen},
		{"an Ack", from(api.TAck, 5001, 101, ""), "3:102:5001" + ack, api.SOpen},
		{"data", from(api.TData, 5001, 0, "x"), "3:102:5001 38=00 193=00000000 194=000f4240", api.SOpen},
		{"data with an Ack", from(api.TDataAck, 5001, 101, "x"), "3:102:5001 38=00 193=00000000 194=000f4240", api.SOpen},
		{"a CloseReq", from(api.TCloseReq, 5001, 101, ""), "6:102:5001", api.SClosing},
		{"a Close", from(api.TClose, 5001, 101, ""), "7:102:5001 code 1", api.SClosed},
		{"a Reset", from(api.TReset, 5001, 101, ""), "", api.SClosed},
		{"a Sync", from(api.TSync, 5001, 101, ""), "9:102:5001", api.SPartOpen},
		{"a SyncAck", from(api.TSyncAck, 5001, 101, ""), "", api.SPartOpen},
		{"a Request", from(api.TRequest, 5001, 0, ""), "8:102:5001", api.SPartOpen},
	} {
		e := opened(t, setup(false, 3))
		recv(t, e, 1000, from(api.TResponse, 5000, 100, "", confirms(3)...), "3:101:5000", api.SPartOpen)
		if got := show(e.Recv(2000, x.b)); got != x.want || e.State() != x.state {
			t.Errorf("P24.1, %s: %s, %d", x.name, got, e.State())
		}
		// Where SOpen came, and be it in passing, the Control is of what was agreed on.
		want := 2
		if x.state == api.SOpen || x.state == api.SClosing || strings.HasPrefix(x.want, "7:") {
			want = 3
		}
		if got := e.Control().Kind(); got != want {
			t.Errorf("P24.1, %s: Control of kind %d", x.name, got)
		}
		switch x.state {
		case api.SOpen, api.SClosed:
			holdNoDue(t, e)
		case api.SPartOpen:
			holdDue(t, e, 201000)
		case api.SClosing:
			holdDue(t, e, 402000)
		}
	}
}

func TestControlAtOpen(t *testing.T) {
	// What was agreed on is the default: the very Control goes on.
	e := opened(t, setup(false, 2))
	recv(t, e, 1000, from(api.TResponse, 5000, 100, "", confirms(2)...), "3:101:5000", api.SPartOpen)
	submit(t, e, 1500, "a", "4:102:5000")
	w, _ := ctrl.Window(e.Control())
	recv(t, e, 2000, from(api.TAck, 5001, 101, "", vector(1)), "", api.SOpen)
	if now, _ := ctrl.Window(e.Control()); now != w || w.Pipe() != 1 {
		t.Error("P24.1: the Control doesn't go on")
	}
	// It is another one: a new one begins, which hears of what went ahead of it.
	e = opened(t, setup(false, 3))
	recv(t, e, 1000, from(api.TResponse, 5000, 100, "", confirms(3)...), "3:101:5000", api.SPartOpen)
	submit(t, e, 1500, "a", "4:102:5000")
	holdDue(t, e, 201000)
	recv(t, e, 2000, from(api.TAck, 5001, 102, "", vector(2)), "", api.SOpen)
	if r := ctrl.Rate(e.Control()); r.Rtt() != 500 || r.Rate() != 64*4000*1000000/500 {
		t.Errorf("P24.1: the new Control hears nothing: %d, %d", r.Rtt(), r.Rate())
	}
	// The Ack that opens a server tells what it agrees on, too; a Confirm that comes later changes the Control no more.
	s := server(t, 3)
	if s.Control().Kind() != 3 || ctrl.Rate(s.Control()).Rate() != 64000 {
		t.Error("P24.1: the server's Control")
	}
	s = opened(t, setup(true, 3))
	recv(t, s, 1000, from(api.TRequest, 100, 0, ""), "1:5000:100", api.SRespond)
	recv(t, s, 2000, from(api.TData, 101, 0, "x", confirms(3)...), "3:5001:101", api.SOpen)
	w, _ = ctrl.Window(s.Control())
	recv(t, s, 3000, from(api.TAck, 102, 5001, "", append(confirms(3), vector(1))...), "", api.SOpen)
	if now, ok := ctrl.Window(s.Control()); !ok || now != w || s.Mine(api.FCcid) != "\x03" {
		t.Errorf("P24.1: the Control behind a late Confirm: %v", s.Control())
	}
	// The size that the rate is for is the setup's.
	z := setup(true, 3)
	z.Size = 77
	s = opened(t, z)
	recv(t, s, 1000, from(api.TRequest, 100, 0, ""), "1:5000:100", api.SRespond)
	recv(t, s, 2000, from(api.TAck, 101, 5000, "", append(confirms(3), vector(1))...), "", api.SOpen)
	if ctrl.Rate(s.Control()).Rate() != 64*77 {
		t.Errorf("P24.1: the rate is %d", ctrl.Rate(s.Control()).Rate())
	}
}

// Windows that were agreed on are what packets are judged by.
func TestWindowsAreAgreedOn(t *testing.T) {
	z := setup(true, 2)
	z.Window = 40
	e := opened(t, z)
	recv(t, e, 1000, from(api.TRequest, 100, 0, "", o(api.OChangeL, "\x03"+opt.Bytes(1000, 6))), "1:5000:100", api.SRespond)
	if v := e.View(); v.Mine != 100 || v.Theirs != 1000 {
		t.Errorf("P24.1: windows %d, %d", v.Mine, v.Theirs)
	}
	recv(t, e, 1000, from(api.TAck, 850, 5000, "", o(api.OConfirmR, "\x03"+opt.Bytes(40, 6)), vector(1)), "", api.SOpen)
	if v := e.View(); v.Mine != 40 || v.Theirs != 1000 || v.Gsr != 850 {
		t.Errorf("P24.1: windows %d, %d", v.Mine, v.Theirs)
	}
	recv(t, e, 2000, from(api.TAck, 601, 5000, "", vector(1)), "", api.SOpen)
	recv(t, e, 2000, from(api.TAck, 600, 5000, "", vector(1)), "8:5001:600", api.SOpen)
	for range 40 {
		e.Recv(2000, from(api.TAck, 851, 5001, ""))
	}
	recv(t, e, 2000, from(api.TAck, 851, 5002, "", vector(1)), "", api.SOpen)
	recv(t, e, 2000, from(api.TAck, 851, 5001, "", vector(1)), "8:5042:851", api.SOpen)
}
