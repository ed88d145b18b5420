package end

import (
	"fmt"
	"slices"
	"strings"
	"testing"

	"muleteer/api"
	"muleteer/ctrl"
	"muleteer/opt"
	"muleteer/pkt"
)

func TestData(t *testing.T) {
	e := client(t, 2)
	for k, x := range []struct {
		b, want string
	}{
		{from(api.TData, 5002, 0, "one"), "3:102:5002 38=01 193=00000000 194=00000bb8"},
		{from(api.TData, 5002, 0, "one"), "3:103:5002 38=01 193=00000000 194=00000000"},
		{from(api.TData, 5002, 0, "another"), "3:104:5002 38=01 193=00000000 194=00000000"},
		{from(api.TDataAck, 5005, 104, "four", vector(1)), "3:105:5005 38=00c101 193=00000000 194=003d0900"},
		{from(api.TDataAck, 5004, 105, "three"), "3:106:5005 38=01c001 193=00000000 194=004c4b40"},
		// Three behind 5003 are got: it is lost, one of three. Data's options are not looked at.
		{from(api.TData, 5006, 0, "", o(api.OChangeL, "\x06\x00"), must, o(99, "x")), "3:107:5006 38=02c001 193=55555555 194=00000000"},
		// What was lost is taken, though it counts for nothing where the losses are told.
		{from(api.TData, 5003, 0, "two"), "3:108:5006 38=05 193=55555555 194=00000000"},
		// As far behind as it may be, as far ahead, and one more each.
		{from(api.TData, 4999, 0, "old"), "8:109:4999"},
		{from(api.TData, 5000, 0, "zero"), "3:110:5006 38=06 193=55555555 194=003d0900"},
		{from(api.TData, 5082, 0, "far"), "8:111:5082"},
		{from(api.TData, 5081, 0, "nearly"), "3:112:5081 38=00ffc906 193=03483483 194=005b8d80"},
		{from(api.TData, 5056, 0, "old"), "8:113:5056"},
		{from(api.TData, 5057, 0, "young"), "3:114:5081 38=00d600f106 193=03483483 194=004c4b40"},
	} {
		if got := show(e.Recv(3000, x.b)); got != x.want || e.State() != api.SOpen {
			t.Errorf("P24.1, %d: Recv tells %s, not %s", k, got, x.want)
		}
	}
	if got := fmt.Sprintf("%q", e.Taken()); got != `["one" "four" "three" "" "two" "zero" "nearly" "young"]` {
		t.Errorf("P24.1: Taken %s", got)
	}
	if e.View().Gsr != 5081 || e.View().Isr != 5000 || e.View().Gar != 105 || e.Theirs(api.FVector) != "\x00" || e.Dropped() != 0 {
		t.Errorf("P24.1: View %v", e.View())
	}
	l := e.Taken()
	l[0] = "mine"
	_ = append(l[:1], "mine")
	if got := e.Taken(); got[0] != "one" || got[1] != "four" {
		t.Error("P0.3: Taken is not a copy")
	}
}

// In each state of an end that knows of the other one data are taken, and told as got.
func TestDataInStates(t *testing.T) {
	for _, x := range []struct {
		name  string
		state int
	}{{"respond", api.SOpen}, {"part open", api.SOpen}, {"client", api.SOpen}, {"server", api.SOpen}, {"close req", api.SCloseReq}, {"closing", api.SClosing}} {
		for _, kind := range []int{api.TData, api.TDataAck} {
			e := inStates(t)[x.name]
			v := e.View()
			l := e.Recv(5000, from(kind, v.Gsr+1, ackOf(kind, v.Gss), "x"))
			p := first(t, l)
			if len(l) != 1 || p.Head.Type != api.TAck || p.Head.Ack != v.Gsr+1 || !slices.Equal(e.Taken(), []string{"x"}) || e.State() != x.state {
				t.Errorf("P24.1: data, %s: %s, %q", x.name, show(l), e.Taken())
			}
			if data, ok := opt.Find(p.Opts, api.OVector0); !ok || data[0] > 1 {
				t.Errorf("P24.1: data, %s: %s", x.name, show(l))
			}
		}
	}
	for _, name := range []string{"listen", "request", "time wait", "closed", "given up"} {
		e := inStates(t)[name]
		v := e.View()
		if len(e.Recv(5000, from(api.TData, v.Gsr+1, 0, "x"))) != 0 || len(e.Taken()) != 0 || e.Dropped() != 1 {
			t.Errorf("P24.1: data, %s", name)
		}
	}
}

// first is the first of packets.
func first(t *testing.T, l []string) api.Pkt {
	t.Helper()
	if len(l) == 0 {
		t.Fatal("P24.1: nothing goes out")
	}
	p, errno := pkt.Get(l[0])
	if errno != api.OK {
		t.Fatalf("P24.1: what goes out can't be: %d", errno)
	}
	return p
}

// The widest window lets in what is 249 numbers old, and what of that is there is not new.
func TestDataLongAgo(t *testing.T) {
	e := opened(t, setup(false, 2))
	recv(t, e, 1000, from(api.TResponse, 5000, 100, "", o(api.OChangeL, "\x03"+opt.Bytes(1000, 6)), o(api.OConfirmR, "\x03")), "3:101:5000", api.SPartOpen)
	recv(t, e, 2000, from(api.TData, 5100, 0, "a"), "3:102:5100", api.SOpen)
	recv(t, e, 2000, from(api.TData, 5349, 0, "b"), "3:103:5349", api.SOpen)
	recv(t, e, 2000, from(api.TData, 5100, 0, "a"), "3:104:5349", api.SOpen)
	recv(t, e, 2000, from(api.TData, 5350, 0, "c"), "3:105:5350", api.SOpen)
	recv(t, e, 2000, from(api.TData, 5100, 0, "d"), "8:106:5100", api.SOpen)
	recv(t, e, 2000, from(api.TData, 5101, 0, "e"), "3:107:5350", api.SOpen)
	if !slices.Equal(e.Taken(), []string{"a", "b", "c", "e"}) {
		t.Errorf("P24.1: Taken %q", e.Taken())
	}
}

// A rate that four bytes have no room for is told as the greatest that they have.
func TestRateTold(t *testing.T) {
	big := strings.Repeat("x", 1400)
	for n, want := range map[int]string{2: "fa56ea00", 3: "ffffffff", 4: "ffffffff"} {
		e := client(t, 2)
		recv(t, e, 3000, from(api.TData, 5002, 0, ""), "3:102:5002", api.SOpen)
		for k := range n {
			recv(t, e, 3000, from(api.TSyncAck, 5003+uint64(k), 102, big), "", api.SOpen)
		}
		got := show(e.Recv(3000, from(api.TData, 5010, 0, big)))
		if !strings.HasSuffix(got, want) {
			t.Errorf("P24.1, %d: ORate %s, not %s", n, got, want)
		}
	}
}

func TestAcks(t *testing.T) {
	e := client(t, 2)
	ack := " 193=00000000 194=00000000"
	for k, x := range []struct {
		b, want string
	}{
		{from(api.TAck, 5002, 101, ""), "3:102:5002 38=01" + ack},
		{from(api.TAck, 5003, 101, "", vector(1)), ""},
		{from(api.TAck, 5004, 102, "", cells()), ""},
		{from(api.TAck, 5005, 102, "", cells(0x80)), ""},
		{from(api.TAck, 5006, 102, "", o(api.OVector1, "\x00")), "3:103:5006 38=05" + ack},
		{from(api.TAck, 5002, 102, ""), "3:104:5006 38=05" + ack},
		{from(api.TSyncAck, 5007, 102, ""), ""},
		{from(api.TSync, 5008, 102, ""), "9:105:5008"},
		{from(api.TSync, 5005, 102, ""), "9:106:5005"},
		// A short packet's numbers lie near those that are known.
		{short(api.TAck, 5009, 106), "3:107:5009 38=08" + ack},
		{short(api.TData, 5010, 0), "3:108:5010 38=09" + ack},
		{short(api.TData, 5099, 0), "8:109:5099"},
	} {
		if got := show(e.Recv(2000, x.b)); got != x.want {
			t.Errorf("P24.1, %d: Recv tells %q, not %q", k, got, x.want)
		}
	}
	if v := e.View(); v.Gsr != 5010 || v.Gar != 106 || e.Dropped() != 0 {
		t.Errorf("P24.1: View %v", v)
	}
	holdNoDue(t, e)
}

// short is a packet with numbers of 24 bits.
func short(t int, s, a uint64) string {
	return bytesOf(api.Pkt{Head: api.Head{Type: t, Seq: s & (1<<24 - 1), Ack: a & (1<<24 - 1)}})
}

func TestShortNumbers(t *testing.T) {
	s := setup(false, 2)
	s.Iss = 1<<47 + 1<<24 - 2
	e := opened(t, s)
	recv(t, e, 1, from(api.TResponse, 1<<40-2, s.Iss, "", confirms(2)...), fmt.Sprintf("3:%d:%d", s.Iss+1, 1<<40-2), api.SPartOpen)
	recv(t, e, 2, short(api.TAck, 1<<40+1, s.Iss+1), fmt.Sprintf("3:%d:%d", s.Iss+2, 1<<40+1), api.SOpen)
	if v := e.View(); v.Gsr != 1<<40+1 || v.Gar != s.Iss+1 {
		t.Errorf("P24.1: View %v", v)
	}
}

func TestSend(t *testing.T) {
	e := client(t, 2)
	vec := " 38=00"
	for k, want := range []string{"4:102:5001" + vec, "4:103:5001" + vec + " x", "4:104:5001" + vec + " xx", "", ""} {
		l, errno := e.Submit(3000, strings.Repeat("x", k))
		if got := show(l); errno != api.OK || got != want {
			t.Errorf("P24.1, %d: Submit %s, not %s", k, got, want)
		}
	}
	w, _ := ctrl.Window(e.Control())
	if e.Waiting() != 2 || w.Pipe() != 3 {
		t.Errorf("P24.1: Waiting %d", e.Waiting())
	}
	holdDue(t, e, 3003000)
	// Two are heard of, so that both that wait may go: behind the Ack of the data that told it.
	got := show(e.Recv(103000, from(api.TDataAck, 5002, 103, "d", vector(2))))
	if got != "3:105:5002 38=01 193=00000000 194=00000009; 4:106:5002 38=01 xxx; 4:107:5002 38=01 xxxx" || w.Cwnd() != 5 || w.Pipe() != 3 || e.Waiting() != 0 {
		t.Errorf("P24.1: heard: %s", got)
	}
	holdDue(t, e, 403000)
	clock(t, e, 402999, "")
	// One that waits goes at the Clock that gives up those that are out.
	for range 3 {
		e.Submit(300000, "y")
	}
	if w.Pipe() != 5 || e.Waiting() != 1 {
		t.Errorf("P24.1: Pipe %d", w.Pipe())
	}
	clock(t, e, 402999, "")
	clock(t, e, 403000, "4:110:5002")
	if w.Cwnd() != 1 || w.Pipe() != 1 {
		t.Errorf("P24.1: Fire: %d, %d", w.Cwnd(), w.Pipe())
	}
	// What is out was given up: what is heard of it comes late.
	recv(t, e, 500000, from(api.TAck, 5003, 109, "", vector(5)), "", api.SOpen)
	if w.Cwnd() != 1 || w.Pipe() != 1 {
		t.Errorf("P24.1: what comes late: %d, %d", w.Cwnd(), w.Pipe())
	}
	recv(t, e, 500000, from(api.TAck, 5004, 110, "", vector(1)), "", api.SOpen)
	if w.Cwnd() != 2 || w.Pipe() != 0 {
		t.Errorf("P24.1: what comes in time: %d, %d", w.Cwnd(), w.Pipe())
	}
	holdNoDue(t, e)
}

// Where nothing was got yet, data go without a vector.
func TestSendInPartOpen(t *testing.T) {
	e := opened(t, setup(false, 3))
	for k := range 5 {
		submit(t, e, 500, strings.Repeat("z", k), "")
	}
	got := show(e.Recv(1000, from(api.TResponse, 5000, 100, "", o(api.OChangeL, "\x06\x01"))))
	asks := " 32=0103 32=03000000000064 32=0601"
	if got != "3:101:5000 35=06010001"+asks+"; 4:102:5000"+asks+"; 4:103:5000"+asks+" z; 4:104:5000"+asks+" zz" || e.Waiting() != 2 {
		t.Errorf("P24.1: Recv tells %s", got)
	}
	recv(t, e, 2000, from(api.TSyncAck, 5002, 101, ""), "", api.SPartOpen)
	// Both that went again and the window's clock are waited for.
	holdDue(t, e, 201000)
	for at := int64(201000); at < 3001000; at += 200000 {
		e.Clock(at)
	}
	got = show(e.Clock(3001000))
	if got != "3:119:5002"+asks+"; 4:120:5002"+asks+" 38=00 zzz" {
		t.Errorf("P24.1: Clock tells %s", got)
	}
	// The Control by a rate has no say of what went ahead of it; all that waits goes by it.
	submit(t, e, 3001000, "last", "")
	recv(t, e, 3001000, from(api.TAck, 5003, 120, "", append(confirms(3), vector(1))...), "", api.SOpen)
	if r := ctrl.Rate(e.Control()); r.Rtt() != 1 || e.Waiting() != 2 {
		t.Errorf("P24.1: the new Control: Rtt %d", r.Rtt())
	}
	holdDue(t, e, 3001001)
	clock(t, e, 3001001, "4:121:5003 4:122:5003")
}

// In no other state anything that waits goes out.
func TestSubmitInStates(t *testing.T) {
	for name, e := range inStates(t) {
		l, errno := e.Submit(5000, "x")
		switch name {
		case "client", "part open", "server":
			if errno != api.OK || first(t, l).Data != "x" || len(l) != 1 || e.Waiting() != 0 {
				t.Errorf("P24.1: Submit, %s: %s, %d", name, show(l), errno)
			}
		case "listen", "request", "respond":
			if errno != api.OK || len(l) != 0 || e.Waiting() != 1 {
				t.Errorf("P24.1: Submit, %s: %s, %d", name, show(l), errno)
			}
			if l, errno := e.Submit(5000, strings.Repeat("x", 1401)); errno != api.ErrLarge || len(l) != 0 || e.Waiting() != 1 {
				t.Errorf("P24.1: Submit of too much, %s: %d", name, errno)
			}
		default:
			if errno != api.ErrState || len(l) != 0 || e.Waiting() != 0 {
				t.Errorf("P24.1: Submit, %s: %s, %d", name, show(l), errno)
			}
			if _, errno := e.Submit(5000, strings.Repeat("x", 1401)); errno != api.ErrState {
				t.Errorf("P24.1: Submit of too much, %s: %d", name, errno)
			}
		}
	}
}

func TestSubmitRefuses(t *testing.T) {
	e := client(t, 2)
	for k := range 19 {
		if _, errno := e.Submit(3000, "y"); errno != api.OK {
			t.Errorf("P24.1, %d: Submit %d", k, errno)
		}
	}
	for range 2 {
		if l, errno := e.Submit(3000, "y"); errno != api.ErrFull || len(l) != 0 || e.Waiting() != 16 {
			t.Errorf("P24.1: Submit to a full queue: %d", errno)
		}
		if l, errno := e.Submit(3000, strings.Repeat("x", 1401)); errno != api.ErrLarge || len(l) != 0 || e.Waiting() != 16 {
			t.Errorf("P24.1: Submit of too much: %d", errno)
		}
	}
	// The greatest one goes, with all that goes with it.
	e = opened(t, setup(true, 2))
	recv(t, e, 1, from(api.TRequest, 100, 0, ""), "1:5000:100", api.SRespond)
	submit(t, e, 2, strings.Repeat("x", 1400), "")
	for k := range 120 {
		e.Recv(3, from(api.TSyncAck, 101+2*uint64(k), 5000, ""))
	}
	l := e.Recv(3, from(api.TAck, 350, 5000, "", vector(1)))
	p := first(t, l)
	if len(l) != 1 || len(p.Data) != 1400 || len(p.Opts) != 4 || len(p.Opts[3].Data) != 241 {
		t.Errorf("P24.1: the greatest one: %s", show(l))
	}
}

// A Submit that is refused lets nothing go, though by now it might.
func TestSubmitRefusedLetsNothingGo(t *testing.T) {
	e := client(t, 3)
	for range 16 {
		submit(t, e, 3000, "abcde", "")
	}
	if l, errno := e.Submit(9000000, "x"); errno != api.ErrFull || len(l) != 0 || e.Waiting() != 16 {
		t.Errorf("P0.2: Submit to a full queue: %d", errno)
	}
	if l := e.Clock(9000000); len(l) != 16 || e.Waiting() != 0 {
		t.Errorf("P24.1: Clock tells %s", show(l))
	}
}

func TestSendByRate(t *testing.T) {
	e := client(t, 3)
	r := ctrl.Rate(e.Control())
	submit(t, e, 3000, strings.Repeat("x", 500), "")
	submit(t, e, 3000, strings.Repeat("x", 500), "")
	// Half a second each, from when the Control first heard.
	holdDue(t, e, 502000)
	clock(t, e, 501999, "")
	clock(t, e, 502000, "4:102:5001")
	holdDue(t, e, 1002000)
	// Its clock runs, too, from the first one on.
	clock(t, e, 1002000, "4:103:5001")
	holdDue(t, e, 2502000)
	got := show(e.Recv(1102000, from(api.TAck, 5002, 103, "", vector(2), o(api.OLoss, opt.Bytes(0, 4)), o(api.ORate, opt.Bytes(50000, 4)))))
	if got != "" || r.Rtt() != 100000 || r.Rate() != 2560000 || r.Loss() != 0 || r.Top() != 50000*64 {
		t.Errorf("P24.1: heard: %s, %d, %d, %d, %d", got, r.Rtt(), r.Rate(), r.Loss(), r.Top())
	}
	// What frees what waits is the time, not what is heard; at Recv it goes, too.
	submit(t, e, 1102000, strings.Repeat("x", 1400), "")
	holdDue(t, e, 1134500)
	recv(t, e, 1134499, from(api.TSyncAck, 5003, 103, ""), "", api.SOpen)
	recv(t, e, 1134500, from(api.TSyncAck, 5004, 103, ""), "4:104:5004", api.SOpen)
	// The loss that is told.
	recv(t, e, 1234500, from(api.TDataAck, 5005, 104, "", vector(1), o(api.ORate, opt.Bytes(1<<30, 4)), o(api.OLoss, opt.Bytes(1<<31, 4))), "3:105:5005", api.SOpen)
	if r.Loss() != 1<<31 || r.Top() != 1<<36 {
		t.Errorf("P24.1: heard: %d, %d", r.Loss(), r.Top())
	}
	// None is told: 0.
	submit(t, e, 1300000, "", "4:106:5005")
	recv(t, e, 1400000, from(api.TAck, 5006, 106, "", vector(1)), "", api.SOpen)
	if r.Loss() != 0 {
		t.Errorf("P24.1: heard: %d", r.Loss())
	}
}

// Rates of other lengths than four bytes tell what they are, and don't wrap.
func TestRatesOfOtherLengths(t *testing.T) {
	for _, x := range []struct {
		rate, loss string
		top, p     uint64
	}{
		{"\x05", "\x00\x01", 320, 1},
		{"\x04\x00\x00\x00\x00\x00\x00\x01", "\x01\x00\x00\x00\x00\x00\x00\x01", 1 << 50, 1 << 32},
		{"", "", 0, 0},
		{"123456789", "123456789", 0, 0},
	} {
		e := client(t, 3)
		submit(t, e, 3000, "", "4:102:5001")
		recv(t, e, 4000, from(api.TAck, 5002, 102, "", vector(1), o(api.ORate, x.rate), o(api.OLoss, x.loss), o(api.ORate, "1234"), o(api.OLoss, "1234")), "", api.SOpen)
		if r := ctrl.Rate(e.Control()); r.Top() != x.top || r.Loss() != x.p {
			t.Errorf("P24.1, %x, %x: heard: %d, %d", x.rate, x.loss, r.Top(), r.Loss())
		}
	}
}

// The Control's clock gives all up that is out, by a rate, too.
func TestFireByRate(t *testing.T) {
	e := client(t, 3)
	submit(t, e, 3000, "", "4:102:5001")
	submit(t, e, 3000, "", "4:103:5001")
	holdDue(t, e, 2003000)
	clock(t, e, 2002999, "")
	clock(t, e, 2003000, "")
	if r := ctrl.Rate(e.Control()); r.Rate() != 32000 {
		t.Errorf("P24.1: Fire: %d", r.Rate())
	}
	// Both come late, so nothing tells how long an answer takes.
	recv(t, e, 2100000, from(api.TAck, 5002, 103, "", vector(2)), "", api.SOpen)
	if r := ctrl.Rate(e.Control()); r.Rtt() != 0 {
		t.Errorf("P24.1: what was given up is heard of: %d", r.Rtt())
	}
}

// The Control counts the time from when it is first asked, not from when it might have been.
func TestControlIsAskedInTime(t *testing.T) {
	s := opened(t, setup(true, 3))
	recv(t, s, 1000, from(api.TRequest, 100, 0, ""), "1:5000:100", api.SRespond)
	recv(t, s, 2000, from(api.TAck, 101, 5000, "", confirms(3)...), "3:5001:101", api.SOpen)
	clock(t, s, 500000, "")
	submit(t, s, 1000000, strings.Repeat("x", 250), "")
	holdDue(t, s, 1250000)
}

// Sixty may be out where a window leads, and where a rate leads any number.
func TestOut(t *testing.T) {
	e := client(t, 2)
	for k := range uint64(70) {
		submit(t, e, 3000, "", fmt.Sprintf("4:%d:%d", 102+k, 5001+k))
		recv(t, e, 3000, from(api.TAck, 5002+k, 102+k, "", vector(1)), "", api.SOpen)
	}
	n := 0
	for range 70 {
		l, _ := e.Submit(4000, "")
		n += len(l)
	}
	w, _ := ctrl.Window(e.Control())
	if n != 60 || e.Waiting() != 10 || w.Pipe() != 60 || w.Cwnd() != 73 {
		t.Errorf("P24.1: %d are out, %d wait", n, e.Waiting())
	}
	l := e.Recv(5000, from(api.TAck, 5072, 172, "", vector(1)))
	if told(l) != "4:232:5072" {
		t.Errorf("P24.1: one is heard of: %s", told(l))
	}
}

// Two hundred are kept; where the eldest of them is out all are given up, and what is heard of them comes late.
func TestNoRoom(t *testing.T) {
	e := client(t, 3)
	for k := range 450 {
		submit(t, e, 3000, "", fmt.Sprintf("4:%d:5001", 102+k))
	}
	r := ctrl.Rate(e.Control())
	recv(t, e, 4000, from(api.TAck, 5002, 501, "", vector(1)), "", api.SOpen)
	if r.Rtt() != 0 {
		t.Errorf("P24.1: 501 was not given up: %d", r.Rtt())
	}
	recv(t, e, 5000, from(api.TAck, 5003, 502, "", vector(1)), "", api.SOpen)
	if r.Rtt() != 2000 {
		t.Errorf("P24.1: 502 was given up: %d", r.Rtt())
	}
}
