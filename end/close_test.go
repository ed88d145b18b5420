package end

import (
	"fmt"
	"math"
	"slices"
	"strings"
	"testing"

	"muleteer/api"
	"muleteer/opt"
)

func TestAskingInOpen(t *testing.T) {
	s := opened(t, setup(true, 2))
	recv(t, s, 0, from(api.TRequest, 100, 0, ""), "1:5000:100", api.SRespond)
	recv(t, s, 10, from(api.TAck, 101, 5000, "", vector(1)), "", api.SOpen)
	at := int64(10)
	for k, wait := range []int64{1, 2, 4, 8, 16, 32, 64, 64} {
		at += 1000000 * wait
		holdDue(t, s, at)
		clock(t, s, at-1, "")
		want := fmt.Sprintf("3:%d:101%s 38=00 193=00000000 194=00000000", 5001+k, asks2)
		if got := show(s.Clock(at)); got != want {
			t.Errorf("P24.1, %d: it asks again: %s, not %s", k, got, want)
		}
	}
	// One that is confirmed leaves two to ask for; the last one ends it.
	holdDue(t, s, at+64000000)
	recv(t, s, at, from(api.TAck, 102, 5008, "", o(api.OConfirmR, "\x06\x01"), vector(1)), "", api.SOpen)
	holdDue(t, s, at+64000000)
	if got := show(s.Clock(at + 64000000)); got != "3:5009:102 32=0102 32=03000000000064 38=01 193=00000000 194=00000000" {
		t.Errorf("P24.1: it asks again: %s", got)
	}
	recv(t, s, at, from(api.TSyncAck, 103, 5008, "", o(api.OConfirmR, "\x01\x02"), o(api.OConfirmR, "\x03")), "", api.SOpen)
	holdNoDue(t, s)
	clock(t, s, 1<<40, "")
	// Those that go with data don't put off the ones that go by themselves.
	e := opened(t, setup(false, 2))
	recv(t, e, 1000, from(api.TResponse, 5000, 100, ""), "3:101:5000", api.SPartOpen)
	recv(t, e, 2000, from(api.TAck, 5001, 101, "", vector(1)), "", api.SOpen)
	l, _ := e.Submit(900000, "x")
	if got := show(l); got != "4:102:5001"+asks2+" 38=00 x" {
		t.Errorf("P24.1: Submit tells %s", got)
	}
	holdDue(t, e, 1002000)
}

func TestAnswers(t *testing.T) {
	ask := o(api.OChangeL, "\x06\x01\x00")
	answer := " 35=06010001"
	rest := " 193=00000000 194=00000000"
	e := client(t, 2)
	for k, x := range []struct {
		b, want string
	}{
		// Nothing else goes out: an Ack.
		{from(api.TAck, 5002, 101, "", vector(1), ask), "3:102:5002" + answer + " 38=01" + rest},
		{from(api.TSyncAck, 5003, 101, "", ask, o(api.OChangeR, "\x01\x02")), "3:103:5003" + answer + " 33=01 38=02" + rest},
		// An Ack goes out anyway, and has it.
		{from(api.TAck, 5004, 101, "", ask), "3:104:5004" + answer + " 38=03" + rest},
		{from(api.TDataAck, 5005, 101, "", ask), "3:105:5005" + answer + " 38=04" + rest},
		// What is told once is told no more; data ask for nothing.
		{from(api.TAck, 5006, 101, ""), "3:106:5006 38=05" + rest},
		{from(api.TData, 5007, 0, "", ask), "3:107:5007 38=06" + rest},
		// A SyncAck goes out, so the answer waits for the next packet.
		{from(api.TSync, 5008, 101, "", ask), "9:108:5008"},
		{from(api.TSync, 5009, 101, "", o(api.OChangeL, "\x05\x01")), "9:109:5009"},
		{from(api.TAck, 5010, 101, "", vector(1)), "3:110:5010" + answer + " 35=05 38=09" + rest},
		// Confirms, and what tells of the way, are not answered.
		{from(api.TAck, 5011, 101, "", vector(1), o(api.OConfirmR, "\x06\x01"), o(api.OConfirmL, "\x06"), o(api.OLoss, "1234"), o(7, "")), ""},
	} {
		if got := show(e.Recv(2000, x.b)); got != x.want {
			t.Errorf("P24.1, %d: Recv tells %s, not %s", k, got, x.want)
		}
	}
	// What waits goes with the next packet, whichever it is.
	recv(t, e, 3000, from(api.TSync, 5012, 101, "", ask), "9:111:5012", api.SOpen)
	l, _ := e.Submit(3000, "x")
	if got := show(l); got != "4:112:5012"+answer+" 38=0b x" {
		t.Errorf("P24.1: Submit tells %s", got)
	}
	// Data that waited go out: the answer goes with them.
	for range 4 {
		e.Submit(3000, "y")
	}
	if got := show(e.Recv(4000, from(api.TAck, 5013, 112, "", vector(1), ask))); got != "4:115:5013"+answer+" 38=0c y; 4:116:5013 38=0c y" {
		t.Errorf("P24.1: Recv tells %s", got)
	}
}

// In the other states an answer goes out, too, but not once the end is closed.
func TestAnswersInStates(t *testing.T) {
	ask := o(api.OChangeL, "\x06\x01\x00")
	for name, want := range map[string]string{"respond": "\x06\x00\x00\x01", "part open": "\x06\x01\x00\x01", "server": "\x06\x00\x00\x01", "close req": "\x06\x00\x00\x01", "closing": "\x06\x01\x00\x01"} {
		e := inStates(t)[name]
		v := e.View()
		l := e.Recv(5000, from(api.TSyncAck, v.Gsr+1, v.Gss, "", ask))
		if p := first(t, l); p.Head.Type != api.TAck || p.Opts[0] != o(api.OConfirmR, want) || len(l) != 1 || e.State() != v.State {
			t.Errorf("P24.1: an answer, %s: %s", name, show(l))
		}
	}
	for _, kind := range []int{api.TReset, api.TClose, api.TCloseReq} {
		e := client(t, 2)
		l := e.Recv(5000, from(kind, 5002, 101, "", ask))
		if strings.Contains(show(l), "3:") {
			t.Errorf("P24.1: an answer to a %d: %s", kind, show(l))
		}
	}
}

// Answers that one packet has no room for go with the next ones.
func TestManyAnswers(t *testing.T) {
	var os []api.Opt
	for k := range 240 {
		os = append(os, o(api.OChangeL, "\x08"+string([]byte{byte(k % 16)})))
	}
	e := client(t, 2)
	told := 0
	for k := range uint64(8) {
		l := e.Recv(3000, from(api.TSyncAck, 5002+k, 101, "", os...))
		os = nil
		for _, o := range first(t, l).Opts {
			if o.Type == api.OConfirmR {
				if o.Data[1] != byte(told%16) || len(o.Data) != 18 {
					t.Errorf("P24.1, %d: an answer %x", told, o.Data)
				}
				told++
			}
		}
		// 1,020 bytes less the head, a vector and the two rates leave room for 49, but for the last packet.
		if want := min(49*(int(k)+1), 240); told != want {
			t.Errorf("P24.1, %d: %d answers", k, told)
		}
		if told == 240 {
			break
		}
	}
	if told != 240 {
		t.Errorf("P24.1: %d answers", told)
	}
	recv(t, e, 3000, from(api.TSyncAck, 5030, 101, ""), "", api.SOpen)
}

// As many answers go as there is room for, to the last byte: 1,020 less a head of 24, a vector of 3 and two rates of 12 bytes.
func TestRoomForAnswers(t *testing.T) {
	for n := 325; n <= 329; n++ {
		e := client(t, 2)
		l := e.Recv(3000, from(api.TSyncAck, 5002, 101, "", slices.Repeat([]api.Opt{o(api.OChangeL, "\x09")}, n)...))
		if p := first(t, l); len(p.Opts) != min(n, 327)+3 || p.Head.Type != api.TAck {
			t.Errorf("P24.1: %d answers: %d options", n, len(p.Opts))
		}
		if rest := e.Recv(3000, from(api.TSyncAck, 5003, 101, "")); len(rest) != max(0, min(n-327, 1)) || len(rest) == 1 && len(first(t, rest).Opts) != n-327+3 {
			t.Errorf("P24.1: %d answers: the rest: %s", n, show(rest))
		}
	}
}

// Each packet's options must be ones that may be, but those of data.
func TestOptionsThatCantBe(t *testing.T) {
	bad := [][]api.Opt{
		{must, o(44, "")}, {must, o(2, "")}, {must, o(api.OChangeL, "\x05\x01")}, {must, o(api.OChangeR, "\x01")}, {o(api.OChangeL, "")}, {o(api.OConfirmL, "")},
	}
	for k, os := range bad {
		for _, kind := range []int{api.TAck, api.TDataAck, api.TCloseReq, api.TClose, api.TReset, api.TSync, api.TSyncAck} {
			for name, want := range map[string]string{"respond": "7:5001:101", "part open": "7:102:5001", "client": "7:102:5002", "server": "7:5001:102", "close req": "7:5002:102", "closing": "7:103:5002"} {
				e := inStates(t)[name]
				v := e.View()
				l := e.Recv(5000, from(kind, v.Gsr+1, v.Gss, "x", os...))
				if got := show(l); got != want+" code 6" || e.State() != api.SClosed || len(e.Taken()) != 0 || e.View().Gsr != v.Gsr+1 || e.View().Gar != v.Gss {
					t.Errorf("P24.1, %d, %d, %s: %s", k, kind, name, got)
				}
			}
		}
		e := client(t, 2)
		recv(t, e, 3000, from(api.TData, 5002, 0, "x", os...), "3:102:5002", api.SOpen)
		s := opened(t, setup(true, 2))
		if got := show(s.Recv(3000, from(api.TRequest, 9, 0, "", os...))); got != "7:5000:9 code 6" || s.State() != api.SClosed || s.View().Isr != 9 {
			t.Errorf("P24.1, %d: a Request: %s", k, got)
		}
		holdNoDue(t, s)
	}
	// What is confirmed, though nobody asked for that.
	s := opened(t, setup(true, 2))
	recv(t, s, 1, from(api.TRequest, 100, 0, ""), "1:5000:100", api.SRespond)
	recv(t, s, 2, from(api.TAck, 101, 5000, "", o(api.OConfirmR, "\x01\x03")), "7:5001:101", api.SClosed)
}

func TestCloseAlone(t *testing.T) {
	for _, server := range []bool{false, true} {
		e := opened(t, setup(server, 2))
		for range 5 {
			submit(t, e, 10, "x", "")
		}
		if l, errno := e.Close(20); errno != api.OK || len(l) != 0 || e.State() != api.SClosed || e.Waiting() != 0 {
			t.Errorf("P24.1: Close: %d", errno)
		}
		holdNoDue(t, e)
		clock(t, e, 99000000, "")
		if e.Recv(99000000, from(api.TRequest, 100, 0, "")); e.Dropped() != 1 || e.State() != api.SClosed {
			t.Error("P24.1: what comes behind Close")
		}
		if e.Recv(99000000, from(api.TResponse, 100, 100, "")); e.Dropped() != 2 || e.State() != api.SClosed {
			t.Error("P24.1: what comes behind Close")
		}
	}
}

func TestClose(t *testing.T) {
	for _, x := range []struct {
		name  string
		want  string
		kind  int
		state int
		ack   uint64
	}{
		{"respond", "5:5001:100", api.TCloseReq, api.SCloseReq, 100},
		{"server", "5:5001:101", api.TCloseReq, api.SCloseReq, 101},
		{"part open", "6:102:5000", api.TClose, api.SClosing, 5000},
		{"client", "6:102:5001", api.TClose, api.SClosing, 5001},
	} {
		e := inStates(t)[x.name]
		for range 5 {
			e.Submit(2000, "x")
		}
		waits := e.Waiting()
		sent := e.View().Gss
		l, errno := e.Close(3000)
		if p := first(t, l); errno != api.OK || len(l) != 1 || p.Head.Type != x.kind || p.Head.Seq != sent+1 || p.Head.Ack != x.ack || len(p.Opts) != 0 || e.State() != x.state || e.Waiting() != 0 || waits == 0 {
			t.Errorf("P24.1: Close, %s: %s, %d, %d", x.name, show(l), e.State(), e.Waiting())
		}
		if l, errno := e.Close(3000); errno != api.ErrState || len(l) != 0 {
			t.Errorf("P24.1: Close again, %s", x.name)
		}
		// What is out may be given up meanwhile; it goes out no more.
		at := int64(3000)
		for k, wait := range []int64{400000, 800000, 1600000, 3200000, 6400000, 12800000, 25600000, 51200000, 64000000, 64000000} {
			at += wait
			clock(t, e, at-1, "")
			if k > 3 {
				holdDue(t, e, at)
			}
			clock(t, e, at, fmt.Sprintf("%d:%d:%d", x.kind, sent+2+uint64(k), x.ack))
		}
	}
	for _, name := range []string{"close req", "closing", "time wait", "closed", "given up"} {
		e := inStates(t)[name]
		state := e.State()
		if l, errno := e.Close(5000); errno != api.ErrState || len(l) != 0 || e.State() != state {
			t.Errorf("P24.1: Close, %s: %d", name, errno)
		}
	}
}

func TestCloseReq(t *testing.T) {
	e := client(t, 2)
	for range 5 {
		e.Submit(2000, "x")
	}
	// What waits is let go by Close alone; but it goes out no more.
	recv(t, e, 3000, from(api.TCloseReq, 5002, 104, ""), "6:105:5002", api.SClosing)
	if e.Waiting() != 2 {
		t.Errorf("P24.1: a CloseReq: Waiting %d", e.Waiting())
	}
	if l, errno := e.Submit(3000, "x"); errno != api.ErrState || len(l) != 0 {
		t.Errorf("P24.1: Submit behind a CloseReq: %d", errno)
	}
	holdDue(t, e, 403000)
	clock(t, e, 403000, "6:106:5002")
	holdDue(t, e, 1203000)
	// It comes again: a Close goes again, and the waiting begins anew.
	recv(t, e, 503000, from(api.TCloseReq, 5003, 105, ""), "6:107:5003", api.SClosing)
	holdDue(t, e, 903000)
	recv(t, e, 503000, from(api.TCloseReq, 5003, 105, ""), "8:108:5003", api.SClosing)
	recv(t, e, 503000, from(api.TAck, 5004, 104, "", vector(3)), "", api.SClosing)
	clock(t, e, 903000, "6:109:5004")
	holdDue(t, e, 1703000)
	// A client that closes by itself.
	e = client(t, 2)
	e.Close(3000)
	recv(t, e, 4000, from(api.TCloseReq, 5002, 102, ""), "6:103:5002", api.SClosing)
	holdDue(t, e, 404000)
	// A server passes one by.
	for _, name := range []string{"respond", "server", "close req"} {
		s := inStates(t)[name]
		v := s.View()
		state := s.State()
		recv(t, s, 5000, from(api.TCloseReq, v.Gsr+1, v.Gss, ""), "", state)
		if s.View().Gsr != v.Gsr+1 || s.View().Gar != v.Gss {
			t.Errorf("P24.1: a CloseReq at a server, %s: %v", name, s.View())
		}
	}
}

func TestCloseComes(t *testing.T) {
	for _, name := range []string{"respond", "part open", "client", "server", "close req", "closing"} {
		e := inStates(t)[name]
		v := e.View()
		want := fmt.Sprintf("7:%d:%d code 1", v.Gss+1, v.Gsr+1)
		if got := show(e.Recv(5000, from(api.TClose, v.Gsr+1, v.Gss, ""))); got != want || e.State() != api.SClosed {
			t.Errorf("P24.1: a Close, %s: %s, %d", name, got, e.State())
		}
		holdNoDue(t, e)
		clock(t, e, 99000000, "")
	}
	// One that is not newer than what came, and one of what was not sent.
	e := client(t, 2)
	recv(t, e, 3000, from(api.TClose, 5001, 101, ""), "8:102:5001", api.SOpen)
	recv(t, e, 3000, from(api.TClose, 5002, 103, ""), "8:103:5002", api.SOpen)
	recv(t, e, 3000, from(api.TClose, 5002, 100, ""), "8:104:5002", api.SOpen)
}

func TestReset(t *testing.T) {
	for _, name := range []string{"respond", "part open", "client", "server", "close req"} {
		e := inStates(t)[name]
		v := e.View()
		recv(t, e, 5000, from(api.TReset, v.Gsr+1, v.Gss, ""), "", api.SClosed)
		holdNoDue(t, e)
	}
	e := inStates(t)["closing"]
	recv(t, e, 500000, from(api.TReset, 5002, 102, "", vector(1)), "", api.STimeWait)
	holdDue(t, e, 240500000)
	for kind := range 10 {
		recv(t, e, 600000, from(kind, 5003, ackOf(kind, 102), ""), "", api.STimeWait)
		if e.Dropped() != kind+1 {
			t.Errorf("P24.1: a %d in STimeWait: Dropped %d", kind, e.Dropped())
		}
	}
	clock(t, e, 240499999, "")
	if e.State() != api.STimeWait {
		t.Error("P24.1: STimeWait ends too early")
	}
	clock(t, e, 240500000, "")
	if e.State() != api.SClosed {
		t.Error("P24.1: STimeWait doesn't end")
	}
	holdNoDue(t, e)
}

// What is out is given up behind the end, too, as long as the Control waits for it.
func TestControlWaitsBehindClose(t *testing.T) {
	e := client(t, 2)
	submit(t, e, 3000, "x", "4:102:5001")
	e.Close(4000)
	clock(t, e, 404000, "6:104:5001")
	clock(t, e, 1204000, "6:105:5001")
	clock(t, e, 2804000, "6:106:5001")
	holdDue(t, e, 3003000)
	clock(t, e, 3003000, "")
	holdDue(t, e, 6004000)
}

func TestSyncs(t *testing.T) {
	// Eight within each second; one that was a second ago counts no more.
	e := client(t, 2)
	var went []int64
	for k := range int64(40) {
		at := 3000 + 50000*k
		for _, b := range e.Recv(at, from(api.TData, 9000+uint64(k), 0, "x", o(api.OChangeL, "\x06\x00"))) {
			if got := show([]string{b}); got != fmt.Sprintf("8:%d:%d", 102+len(went), 9000+k) {
				t.Errorf("P24.1, %d: a Sync %s", k, got)
			}
			went = append(went, at)
		}
	}
	want := []int64{3000, 53000, 103000, 153000, 203000, 253000, 303000, 353000}
	for _, at := range want[:8] {
		want = append(want, at+1000000)
	}
	if !slices.Equal(went, want) {
		t.Errorf("P24.1: Syncs at %v", went)
	}
	e = client(t, 2)
	for k := range 8 {
		recv(t, e, 3000, from(api.TData, 9000, 0, "x"), fmt.Sprintf("8:%d:9000", 102+k), api.SOpen)
	}
	recv(t, e, 3000, from(api.TData, 9000, 0, "x"), "", api.SOpen)
	recv(t, e, 1002999, from(api.TData, 9000, 0, "x"), "", api.SOpen)
	for k := range 8 {
		recv(t, e, 1003000, from(api.TData, 9000, 0, "x"), fmt.Sprintf("8:%d:9000", 110+k), api.SOpen)
	}
	recv(t, e, 1003000, from(api.TData, 9000, 0, "x"), "", api.SOpen)
	if e.Dropped() != 0 || e.View() != (api.View{State: api.SOpen, Gss: 117, Gsr: 5001, Gar: 101, Iss: 100, Isr: 5000, Mine: 100, Theirs: 100}) {
		t.Errorf("P24.1: behind Syncs: %d, %v", e.Dropped(), e.View())
	}
	// Of a Reset the number that was got last is told.
	recv(t, e, 9000000, from(api.TReset, 7000, 101, ""), "8:118:5001", api.SOpen)
	recv(t, e, 9000000, from(api.TReset, 5002, 99, ""), "8:119:5001", api.SOpen)
	// Syncs that can't be are dropped.
	recv(t, e, 9000000, from(api.TSync, 5002, 120, ""), "", api.SOpen)
	recv(t, e, 9000000, from(api.TSyncAck, 4999, 119, ""), "", api.SOpen)
	if e.Dropped() != 2 {
		t.Errorf("P24.1: Dropped %d", e.Dropped())
	}
	// One from far ahead holds, and takes the window along.
	recv(t, e, 9000000, from(api.TSync, 5001+1<<46, 119, ""), fmt.Sprintf("9:120:%d", 5001+1<<46), api.SOpen)
	recv(t, e, 9000000, from(api.TData, 5002, 0, "x"), "8:121:5002", api.SOpen)
	recv(t, e, 9000000, from(api.TData, 5002+1<<46, 0, "x"), fmt.Sprintf("3:122:%d", 5002+1<<46), api.SOpen)
}

func TestRefusedBytes(t *testing.T) {
	good := from(api.TData, 5002, 0, "x")
	for name, e := range inStates(t) {
		before := snap(e)
		for k, b := range []string{"", "junk", good[:15], good[:len(good)-1], good + "x", strings.Repeat("\x00", 12), strings.Repeat("x", 2501), strings.Repeat("\xff", 5000), spoil(good, 70), spoil(good, 0)} {
			if l := e.Recv(1<<50, b); len(l) != 0 || e.Dropped() != before.dropped+k+1 {
				t.Errorf("P24.1, %s, %d: Dropped %d", name, k, e.Dropped())
			}
		}
		after := snap(e)
		after.dropped = before.dropped
		if after != before {
			t.Errorf("T5, %s: %v, not %v", name, after, before)
		}
	}
}

// spoil is b with one of its bits turned.
func spoil(b string, bit int) string {
	bs := []byte(b)
	bs[bit/8] ^= 1 << (bit % 8)
	return string(bs)
}

func TestTimes(t *testing.T) {
	// They never go back, whatever the call, also one that is refused.
	e := opened(t, setup(false, 2))
	clock(t, e, 500000, "")
	recv(t, e, 10, from(api.TResponse, 5000, 100, "", confirms(2)...), "3:101:5000", api.SPartOpen)
	holdDue(t, e, 700000)
	recv(t, e, 900000, "junk", "", api.SPartOpen)
	clock(t, e, 0, "3:102:5000")
	holdDue(t, e, 1100000)
	e.Submit(2000000, strings.Repeat("x", 1401))
	clock(t, e, 0, "3:103:5000")
	holdDue(t, e, 2200000)
	e.Open(3000000)
	clock(t, e, 0, "3:104:5000")
	holdDue(t, e, 3200000)
	submit(t, e, 3100000, "x", "4:105:5000")
	e.Close(-1)
	holdDue(t, e, 3500000)
	// Above 2^62 they count as that, and below 0 as they are.
	e = New(setup(false, 2))
	e.Open(math.MaxInt64)
	holdDue(t, e, 1<<62)
	clock(t, e, 1<<62-1, "0:101:0")
	clock(t, e, math.MaxInt64, "0:102:0")
	holdDue(t, e, 1<<62)
	e = New(setup(false, 2))
	e.Open(-5)
	holdDue(t, e, 999995)
	e = New(setup(false, 2))
	e.Open(math.MinInt64)
	holdDue(t, e, math.MinInt64+1000000)
	clock(t, e, math.MaxInt64, "0:101:0")
}

func TestFarTimes(t *testing.T) {
	for _, start := range []int64{math.MinInt64, -1 << 62, -2000, 1<<62 - 2000, 1 << 62, math.MaxInt64} {
		for _, ccid := range []int{2, 3} {
			e := New(setup(false, ccid))
			e.Open(start)
			e.Recv(start, from(api.TResponse, 5000, 100, "", confirms(ccid)...))
			e.Submit(start, "a")
			e.Recv(start, from(api.TAck, 5001, 101, "", vector(1)))
			for k := range 220 {
				e.Submit(start, strings.Repeat("x", k))
				e.Clock(start)
				e.Recv(start, from(api.TData, 5002+uint64(k%20), 0, "x"))
				e.Recv(start, from(api.TData, 9002, 0, "x"))
			}
			for range 50 {
				at, ok := e.Due()
				if !ok {
					break
				}
				if at < start && start <= 1<<62 || at > 1<<62 {
					t.Errorf("P0.6: Due %d behind %d", at, start)
				}
				e.Clock(at)
			}
			e.Close(math.MaxInt64)
			e.Clock(math.MaxInt64)
			if e.State() != api.SClosing || len(e.Taken()) != 20 {
				t.Errorf("P24.1: from %d on: %d", start, e.State())
			}
		}
	}
}

// What the bucket lets go only beyond the last time there is, nothing is due for.
func TestNeverDue(t *testing.T) {
	for ahead, want := range map[int64]bool{1000000: false, 1000001: true} {
		e := New(setup(false, 3))
		now := 1<<62 - ahead
		e.Open(0)
		e.Recv(0, from(api.TResponse, 5000, 100, "", confirms(3)...))
		e.Recv(now, from(api.TAck, 5001, 101, "", vector(1)))
		submit(t, e, now, strings.Repeat("x", 1000), "")
		if want {
			holdDue(t, e, 1<<62-1)
		} else {
			holdNoDue(t, e)
		}
	}
}

// The numbers go round.
func TestNumbersGoRound(t *testing.T) {
	s := setup(false, 2)
	s.Iss = max48
	e := opened(t, s)
	recv(t, e, 1000, from(api.TResponse, max48-1, max48, "", confirms(2)...), "3:0:281474976710654", api.SPartOpen)
	recv(t, e, 2000, from(api.TAck, max48, 0, "", vector(2)), "", api.SOpen)
	submit(t, e, 2000, "x", "4:1:281474976710655")
	recv(t, e, 3000, from(api.TDataAck, 1, 1, "y", vector(2)), "3:2:1", api.SOpen)
	if v := e.View(); v != (api.View{State: api.SOpen, Gss: 2, Gsr: 1, Gar: 1, Iss: max48, Isr: max48 - 1, Mine: 100, Theirs: 100}) {
		t.Errorf("P24.1: %v", v)
	}
}

func TestNil(t *testing.T) {
	for _, e := range []*End{nil, {}} {
		if l, errno := e.Open(0); len(l) != 0 || errno != api.ErrOff {
			t.Error("P24.1: Open of nil")
		}
		if l, errno := e.Submit(0, "x"); len(l) != 0 || errno != api.ErrOff {
			t.Error("P24.1: Submit of nil")
		}
		if l, errno := e.Close(0); len(l) != 0 || errno != api.ErrOff {
			t.Error("P24.1: Close of nil")
		}
		if len(e.Recv(0, "")) != 0 || len(e.Recv(0, from(api.TRequest, 0, 0, ""))) != 0 || len(e.Clock(1<<62)) != 0 || e.State() != 0 || e.View() != (api.View{}) || len(e.Taken()) != 0 || e.Waiting() != 0 || e.Dropped() != 0 || e.Control() != nil {
			t.Error("P24.1: nil")
		}
		holdNoDue(t, e)
		for f := -1; f < 10; f++ {
			if e.Mine(f) != "" || e.Theirs(f) != "" {
				t.Error("P24.1: Mine, Theirs of nil")
			}
		}
	}
}

// What is told is new memory.
func TestToldIsNew(t *testing.T) {
	e := client(t, 2)
	l, _ := e.Submit(3000, "x")
	keep := slices.Clone(l)
	_ = append(l[:0], "mine", "mine", "mine")
	m, _ := e.Submit(3000, "y")
	l[0] = "mine"
	if told(m) != "4:103:5001" || told(keep) != "4:102:5001" {
		t.Errorf("P0.3: %s", told(m))
	}
	if got := e.Mine(api.FWindow); got != opt.Bytes(100, 6) {
		t.Errorf("P24.1: Mine %x", got)
	}
}
