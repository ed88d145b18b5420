package end

import (
	"fmt"
	"math/rand"
	"slices"
	"strings"
	"testing"

	"muleteer/api"
	"muleteer/ctrl"
	"muleteer/feed"
	"muleteer/got"
	"muleteer/nego"
	"muleteer/opt"
	"muleteer/pkt"
	"muleteer/sent"
	"muleteer/seq"
	"muleteer/valid"
	"muleteer/vec"
)

// picture is all that may be seen of an end.
type picture struct {
	view                         api.View
	taken, control, mine, theirs string
	waiting, dropped             int
	due                          int64
	isDue                        bool
}

func snap(e *End) picture {
	p := picture{view: e.View(), taken: fmt.Sprintf("%q", e.Taken()), control: showControl(e.Control()), waiting: e.Waiting(), dropped: e.Dropped()}
	for f := range 10 {
		p.mine += fmt.Sprintf("%x ", e.Mine(f))
		p.theirs += fmt.Sprintf("%x ", e.Theirs(f))
	}
	p.due, p.isDue = e.Due()
	return p
}

func showControl(c ctrl.Control) string {
	if c == nil {
		return "none"
	}
	var out strings.Builder
	at, ok := c.Due()
	fmt.Fprintf(&out, "%d: %d %v", c.Kind(), at, ok)
	if w, ok := ctrl.Window(c); ok {
		fmt.Fprintf(&out, " %d %d %d", w.Cwnd(), w.Slow(), w.Pipe())
	} else {
		r := ctrl.Rate(c)
		b, _ := ctrl.Bucket(c)
		fmt.Fprintf(&out, " %d %d %d %d, %d %d", r.Rate(), r.Rtt(), r.Loss(), r.Top(), b.Cap(), b.When(1400))
	}
	return out.String()
}

// mirror is a second reckoning of the chapter's words, bullet by bullet.
type mirror struct {
	s                            api.Setup
	state                        int
	wasOpen                      bool
	now                          int64
	gss, gsr, gar, iss, isr, nxt uint64
	n                            *nego.Nego
	owes                         bool // an answer of nego is due
	q                            []string
	g                            *got.Got
	f                            *feed.Feed
	sn                           *sent.Sent
	c                            ctrl.Control
	redoAt, redoAfter, redoMost  int64 // what goes again, or ends; redoAfter 0: nothing
	syncs                        []int64
	taken                        []string
	dropped                      int
	out                          []string
}

func reflect(s api.Setup) *mirror {
	m := &mirror{s: s, now: -1 << 63, n: nego.New(s.Server), g: got.New(), f: feed.New(100000), sn: sent.New()}
	ccids := ""
	for _, c := range s.Ccids {
		ccids += map[int]string{2: "\x02", 3: "\x03"}[c]
	}
	m.n.Want(api.FCcid, ccids)
	m.n.Want(api.FWindow, opt.Bytes(uint64(s.Window), 6))
	m.n.Want(api.FVector, "\x01")
	return m
}

func (m *mirror) view() api.View {
	mine, _ := opt.Number(m.n.Mine(api.FWindow))
	theirs, _ := opt.Number(m.n.Theirs(api.FWindow))
	return api.View{State: m.state, Gss: m.gss, Gsr: m.gsr, Gar: m.gar, Iss: m.iss, Isr: m.isr, Mine: int(mine), Theirs: int(theirs)}
}

func (m *mirror) at(now int64) {
	if now > 1<<62 {
		now = 1 << 62
	}
	if now > m.now {
		m.now = now
	}
}

// tell sends; opts: what nego has goes ahead of os.
func (m *mirror) tell(t int, ack uint64, code int, opts bool, data string, os ...api.Opt) {
	p := api.Pkt{Head: api.Head{Src: m.s.Src, Dst: m.s.Dst, Type: t, X: true, Seq: m.nxt, Ack: ack, Code: code}, Data: data}
	if t < 2 {
		p.Head.Service = m.s.Service
	}
	if opts {
		p.Opts = m.n.Opts()
		m.owes = false
	}
	p.Opts = append(p.Opts, os...)
	m.out = append(m.out, bytesOf(p))
	m.gss = m.nxt
	m.nxt = (m.nxt + 1) % (1 << 48)
}

func (m *mirror) what() (uint64, []api.Opt) {
	n, ok := m.g.Newest()
	if !ok {
		return m.gsr, nil
	}
	return n, []api.Opt{{Type: api.OVector0, Data: vec.Put(m.g.Cells()...)[0]}}
}

func (m *mirror) ack() {
	n, os := m.what()
	x, p := m.f.Tell(m.now)
	os = append(os, api.Opt{Type: api.OLoss, Data: opt.Bytes(min(p, 1<<32-1), 4)}, api.Opt{Type: api.ORate, Data: opt.Bytes(min(x/64, 1<<32-1), 4)})
	m.tell(api.TAck, n, 0, true, "", os...)
}

func (m *mirror) redo(after, most int64) {
	m.redoAfter, m.redoMost = after, most
	m.redoAt = min(m.now+after, 1<<62)
}

func (m *mirror) shut(state int) { m.state, m.redoAfter = state, 0 }

func (m *mirror) open(now int64) {
	m.at(now)
	if m.wasOpen || m.state != api.SClosed {
		return
	}
	m.wasOpen = true
	m.iss, m.gar, m.nxt = m.s.Iss, m.s.Iss, m.s.Iss
	if m.s.Server {
		m.state = api.SListen
		return
	}
	m.state = api.SRequest
	m.tell(api.TRequest, 0, 0, true, "")
	m.redo(1000000, 64000000)
}

func (m *mirror) over() bool {
	return m.state == api.SClosed || m.state == api.STimeWait || m.state == api.SCloseReq || m.state == api.SClosing
}

func (m *mirror) submit(now int64, d string) api.Errno {
	m.at(now)
	if m.over() {
		return api.ErrState
	}
	if len(d) > 1400 {
		return api.ErrLarge
	}
	if len(m.q) == 16 {
		return api.ErrFull
	}
	m.q = append(m.q, d)
	m.flush()
	return api.OK
}

func (m *mirror) flush() {
	for (m.state == api.SOpen || m.state == api.SPartOpen) && len(m.q) > 0 {
		d := m.q[0]
		if m.c.Kind() == 2 && m.sn.Out() > 59 || !m.c.May(m.now, len(d)) {
			break
		}
		m.q = m.q[1:]
		if !m.sn.Put(m.nxt, m.now) {
			m.sn.LoseAll()
			m.sn.Put(m.nxt, m.now)
		}
		m.c.Sent(m.now, m.nxt, len(d))
		n, os := m.what()
		m.tell(api.TDataAck, n, 0, true, d, os...)
	}
}

func (m *mirror) close(now int64) api.Errno {
	m.at(now)
	if m.over() {
		return api.ErrState
	}
	m.q = nil
	if m.state == api.SListen || m.state == api.SRequest {
		m.shut(api.SClosed)
		return api.OK
	}
	m.closing()
	return api.OK
}

func (m *mirror) closing() {
	m.state = api.SClosing
	kind := api.TClose
	if m.s.Server {
		m.state, kind = api.SCloseReq, api.TCloseReq
	}
	m.tell(kind, m.gsr, 0, false, "")
	m.redo(400000, 64000000)
}

func (m *mirror) recv(now int64, b string) {
	m.at(now)
	p, errno := pkt.Get(b)
	if errno != api.OK {
		m.dropped++
		return
	}
	switch valid.Check(m.view(), p) {
	case valid.Drop:
		m.dropped++
	case valid.Sync:
		n := 0
		for _, at := range m.syncs {
			if uint64(m.now)-uint64(at) < 1000000 {
				n++
			}
		}
		if n < 8 {
			m.syncs = append(m.syncs, m.now)
			ack, _ := valid.Answer(m.view(), p)
			m.tell(api.TSync, ack, 0, false, "")
		}
	case valid.Good:
		m.good(valid.Long(m.view(), p))
	}
}

func (m *mirror) good(p api.Pkt) {
	h := p.Head
	hasAck := h.Type != api.TRequest && h.Type != api.TData
	if m.state == api.SListen && h.Service != m.s.Service {
		m.tell(api.TReset, h.Seq, 8, false, "")
		return
	}
	if m.state == api.SListen || m.state == api.SRequest {
		m.isr, m.gsr = h.Seq, h.Seq
	}
	if seq.Less(m.gsr, h.Seq) {
		m.gsr = h.Seq
	}
	if hasAck && seq.Less(m.gar, h.Ack) {
		m.gar = h.Ack
	}
	if h.Type != api.TData {
		for _, o := range p.Opts {
			m.owes = m.owes || o.Type == api.OChangeL || o.Type == api.OChangeR
		}
		if !m.n.Take(p.Opts) {
			m.tell(api.TReset, m.gsr, 6, false, "")
			m.shut(api.SClosed)
			return
		}
	}
	isNew := false
	if h.Type > api.TResponse {
		isNew = m.g.Put(h.Seq, false)
		m.f.Put(m.now, h.Seq, len(p.Data))
	}
	m.grow(h.Type)
	m.listen(p, hasAck)
	m.react(p, isNew)
	m.flush()
	if m.owes && len(m.out) == 0 && m.state != api.SClosed && m.state != api.STimeWait {
		m.ack()
	}
	if m.state == api.SOpen && m.n.Done() {
		m.redoAfter = 0
	}
}

// grow is SPartOpen and SRespond, which become SOpen.
func (m *mirror) grow(t int) {
	isData := t == api.TData || t == api.TDataAck
	switch {
	case m.state == api.SRespond && (isData || t == api.TAck):
	case m.state == api.SPartOpen && (isData || t == api.TAck || t == api.TCloseReq || t == api.TClose):
	default:
		return
	}
	m.state = api.SOpen
	m.redo(1000000, 64000000)
	if k := int(m.n.Mine(api.FCcid)[0]); m.c == nil || k != m.c.Kind() {
		m.c = ctrl.Of(k, m.s.Size)
	}
}

// listen is a packet with a vector.
func (m *mirror) listen(p api.Pkt, hasAck bool) {
	v, ok := opt.Find(p.Opts, api.OVector0)
	cs, may := vec.Get(v)
	if !ok || !may || !hasAck || m.c == nil {
		return
	}
	x, _ := opt.Find(p.Opts, api.ORate)
	l, _ := opt.Find(p.Opts, api.OLoss)
	rate, _ := opt.Number(x)
	loss, _ := opt.Number(l)
	m.c.Hear(m.now, m.sn.Hear(p.Head.Ack, cs, m.now), min(rate, 1<<58-1)*64, loss)
}

func (m *mirror) react(p api.Pkt, isNew bool) {
	_, hasVector := opt.Find(p.Opts, api.OVector0)
	switch t := p.Head.Type; {
	case t == api.TRequest:
		m.state = api.SRespond
		m.tell(api.TResponse, p.Head.Seq, 0, true, "")
	case t == api.TResponse:
		m.state = api.SPartOpen
		m.c = ctrl.Of(2, m.s.Size)
		m.tell(api.TAck, m.gsr, 0, true, "")
		m.redo(200000, 200000)
	case t == api.TData || t == api.TDataAck:
		if isNew {
			m.taken = append(m.taken, p.Data)
		}
		m.ack()
	case t == api.TAck && !hasVector:
		m.ack()
	case t == api.TCloseReq && !m.s.Server:
		m.closing()
	case t == api.TClose:
		m.tell(api.TReset, m.gsr, 1, false, "")
		m.shut(api.SClosed)
	case t == api.TReset && m.state == api.SClosing:
		m.shut(api.STimeWait)
		m.redo(240000000, 1)
	case t == api.TReset:
		m.shut(api.SClosed)
	case t == api.TSync:
		m.tell(api.TSyncAck, p.Head.Seq, 0, false, "")
	}
}

func (m *mirror) clock(now int64) {
	m.at(now)
	if m.redoAfter > 0 && m.redoAt <= m.now {
		switch m.state {
		case api.SRequest:
			m.tell(api.TRequest, 0, 0, true, "")
		case api.SPartOpen:
			m.tell(api.TAck, m.gsr, 0, true, "")
		case api.SOpen:
			m.ack()
		case api.SCloseReq:
			m.tell(api.TCloseReq, m.gsr, 0, false, "")
		case api.SClosing:
			m.tell(api.TClose, m.gsr, 0, false, "")
		}
		if m.state == api.STimeWait {
			m.shut(api.SClosed)
		} else {
			m.redo(min(2*m.redoAfter, m.redoMost), m.redoMost)
		}
	}
	if m.c != nil {
		if at, ok := m.c.Due(); ok && at <= m.now && m.c.Fire(m.now) {
			m.sn.LoseAll()
		}
	}
	m.flush()
}

func (m *mirror) due() (int64, bool) {
	var all []int64
	if m.redoAfter > 0 {
		all = append(all, m.redoAt)
	}
	if m.c != nil {
		if at, ok := m.c.Due(); ok {
			all = append(all, at)
		}
		if b, ok := ctrl.Bucket(m.c); ok && m.state == api.SOpen && len(m.q) > 0 && b.When(len(m.q[0])) < 1<<62 {
			all = append(all, b.When(len(m.q[0])))
		}
	}
	if len(all) == 0 {
		return 0, false
	}
	return slices.Min(all), true
}

func (m *mirror) snap() picture {
	p := picture{view: m.view(), taken: fmt.Sprintf("%q", m.taken), control: showControl(m.c), waiting: len(m.q), dropped: m.dropped}
	for f := range 10 {
		p.mine += fmt.Sprintf("%x ", m.n.Mine(f))
		p.theirs += fmt.Sprintf("%x ", m.n.Theirs(f))
	}
	p.due, p.isDue = m.due()
	return p
}

// script throws calls at an end and its mirror.
type script struct {
	r   *rand.Rand
	e   *End
	m   *mirror
	now int64
	log []string
}

func (x *script) say(format string, a ...any) { x.log = append(x.log, fmt.Sprintf(format, a...)) }

// pass lets some time go by, or all up to what is due.
func (x *script) pass() {
	switch x.r.Intn(8) {
	case 0:
		if at, ok := x.e.Due(); ok && at < 1<<61 {
			x.now = at - int64(x.r.Intn(3)) + 1
		}
	case 1:
		x.now += int64(x.r.Intn(1000000))
	case 2, 3:
		x.now += int64(x.r.Intn(20000))
	case 4:
		x.now -= int64(x.r.Intn(2000))
	case 5:
		if x.r.Intn(20) == 0 {
			x.now += 1 << uint(x.r.Intn(40))
		}
	}
}

// near is a number about n, mostly within a window.
func (x *script) near(n uint64) uint64 {
	switch x.r.Intn(16) {
	case 0:
		return x.r.Uint64() & (1<<48 - 1)
	case 1:
		return seq.Add(n, int64(x.r.Intn(300)-150))
	case 2:
		return seq.Add(n, -int64(x.r.Intn(30)))
	case 3, 4:
		return n
	case 5, 6:
		return seq.Add(n, int64(x.r.Intn(6)))
	}
	return seq.Add(n, 1)
}

// acked is a number that may be told as got.
func (x *script) acked(v api.View) uint64 {
	switch x.r.Intn(20) {
	case 0:
		return x.near(v.Gss)
	case 1:
		return x.near(v.Gar)
	case 2, 3, 4:
		return seq.Add(v.Gss, -int64(x.r.Intn(8)))
	}
	return v.Gss
}

func (x *script) opts() []api.Opt {
	var os []api.Opt
	for range x.r.Intn(4) {
		switch x.r.Intn(18) {
		case 0, 1, 2, 3:
			os = append(os, cells(x.r.Intn(8), 0xc0+x.r.Intn(3), x.r.Intn(8)))
		case 4, 5:
			os = append(os, cells(x.r.Intn(8)))
		case 6:
			os = append(os, cells(x.r.Intn(256), x.r.Intn(256)))
		case 7:
			os = append(os, o(api.OLoss, opt.Bytes(x.r.Uint64()>>uint(x.r.Intn(64)), 4)), o(api.ORate, opt.Bytes(x.r.Uint64()>>uint(x.r.Intn(64)), 4)))
		case 8:
			os = append(os, o(api.OChangeL, []string{"\x01\x02\x03", "\x01\x03", "\x03" + opt.Bytes(200, 6), "\x03" + opt.Bytes(32, 6), "\x06\x01", "\x08\x05", "\x04"}[x.r.Intn(7)]))
		case 9:
			os = append(os, o(api.OChangeR, "\x01\x02"))
		case 10, 11:
			os = append(os, o(api.OConfirmR, []string{"\x01\x02", "\x01\x03", "\x01", "\x03" + opt.Bytes(100, 6), "\x03", "\x06\x01", "\x06"}[x.r.Intn(7)]))
		case 12:
			os = append(os, o(api.OElapsed, "12"), o(2, ""))
		case 13:
			os = append(os, o(api.OConfirmL, "\x01\x02"), o(api.OVector1, "\x00"))
		case 14:
			if x.r.Intn(12) == 0 {
				os = append(os, must, o(44, "x"))
			}
		}
	}
	return os
}

// packet is one that may come to the end.
func (x *script) packet() string {
	v := x.e.View()
	kind := []int{0, 1, 2, 2, 2, 3, 3, 3, 3, 4, 4, 4, 5, 6, 7, 8, 9}[x.r.Intn(17)]
	if kind >= api.TCloseReq && kind <= api.TReset && x.r.Intn(6) > 0 {
		kind = api.TAck
	}
	if v.State == api.SListen && x.r.Intn(2) == 0 {
		kind = api.TRequest
	}
	if v.State == api.SRequest && x.r.Intn(2) == 0 {
		kind = api.TResponse
	}
	h := api.Head{Type: kind, X: true, Seq: x.near(v.Gsr)}
	if kind != api.TRequest && kind != api.TData {
		h.Ack = x.acked(v)
	}
	if kind < 2 {
		h.Service = 77 + uint32(x.r.Intn(8)/7)
	}
	if kind >= api.TData && kind <= api.TDataAck && x.r.Intn(4) == 0 {
		h.X, h.Seq, h.Ack = false, h.Seq&(1<<24-1), h.Ack&(1<<24-1)
	}
	if kind == api.TData {
		h.Ack = 0
	}
	return bytesOf(api.Pkt{Head: h, Opts: x.opts(), Data: strings.Repeat("d", x.r.Intn(20)*x.r.Intn(2))})
}

// step does one call with both, and holds what they tell against one another.
func (x *script) step(t *testing.T) bool {
	x.pass()
	var l []string
	var errno, want api.Errno
	x.m.out = nil
	switch k := x.r.Intn(40); {
	case k == 0:
		x.say("Open %d", x.now)
		l, errno = x.e.Open(x.now)
		if x.m.wasOpen {
			want = api.ErrState
		}
		x.m.open(x.now)
	case k == 1 && x.r.Intn(8) == 0:
		x.say("Close %d", x.now)
		l, errno = x.e.Close(x.now)
		want = x.m.close(x.now)
	case k < 10:
		n := []int{0, 5, 300, 1000, 1400, 1401}[x.r.Intn(6)]
		x.say("Submit %d, %d", x.now, n)
		l, errno = x.e.Submit(x.now, strings.Repeat("s", n))
		want = x.m.submit(x.now, strings.Repeat("s", n))
	case k < 15:
		x.say("Clock %d", x.now)
		l = x.e.Clock(x.now)
		x.m.clock(x.now)
	default:
		b := x.packet()
		if x.r.Intn(20) == 0 {
			b = spoil(b, x.r.Intn(8*len(b)))
		}
		x.say("Recv %d %s", x.now, tellAny(b))
		l = x.e.Recv(x.now, b)
		x.m.recv(x.now, b)
	}
	if errno != want || !slices.Equal(l, x.m.out) {
		t.Errorf("P24.1: %s: it tells %s, %d, not %s, %d", strings.Join(x.last(), "; "), show(l), errno, show(x.m.out), want)
		return false
	}
	if a, b := snap(x.e), x.m.snap(); a != b {
		t.Errorf("P24.1: %s: it is %v, not %v", strings.Join(x.last(), "; "), a, b)
		return false
	}
	return true
}

func (x *script) last() []string { return x.log[max(len(x.log)-12, 0):] }

func tellAny(b string) string {
	p, errno := pkt.Get(b)
	if errno != api.OK {
		return "bad"
	}
	text := fmt.Sprintf("%d:%d:%d", p.Head.Type, p.Head.Seq, p.Head.Ack)
	for _, o := range p.Opts {
		text += fmt.Sprintf(" %d=%x", o.Type, o.Data)
	}
	return text
}

func TestAgainstTheMirror(t *testing.T) {
	reached := map[int]int{}
	kinds := map[string]int{}
	for seed := range int64(1500) {
		r := rand.New(rand.NewSource(seed))
		s := setup(seed%2 == 0, [][]int{{2}, {3}, {2, 3}, {3, 2}}[r.Intn(4)]...)
		if seed%5 == 0 {
			s.Iss = 1<<48 - uint64(r.Intn(50)) - 1
		}
		s.Size = []int{1, 100, 1400}[r.Intn(3)]
		x := &script{r: r, e: New(s), m: reflect(s)}
		if seed%7 > 0 {
			x.e.Open(0)
			x.m.open(0)
		}
		for range 150 {
			if !x.step(t) {
				return
			}
			reached[x.e.State()]++
			if c := x.e.Control(); c != nil {
				kinds[showControl(c)[:1]]++
			}
		}
	}
	for state := range 9 {
		if reached[state] < 100 {
			t.Errorf("the scripts hardly reach state %d: %v", state, reached)
		}
	}
	if kinds["2"] < 1000 || kinds["3"] < 1000 {
		t.Errorf("the scripts hardly reach both kinds: %v", kinds)
	}
}
