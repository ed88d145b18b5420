package end

import (
	"math"
	"slices"

	"muleteer/api"
	"muleteer/ctrl"
	"muleteer/head"
	"muleteer/opt"
	"muleteer/pkt"
	"muleteer/seq"
	"muleteer/vec"
)

const (
	maxOut    = 60 // datagrams that are out at once, where a window leads
	parts     = 64 // a rate counts 64ths of bytes a second
	maxNumber = math.MaxUint32
	numberLen = 4       // bytes of a number that is told
	maxAhead  = 4 * 255 // bytes ahead of a packet's data: more a head can't tell
	optLead   = 2       // bytes of an option ahead of its data
)

// put lets a packet go: its number and what all packets of this end have alike is given to it here.
func (e *End) put(p api.Pkt) {
	p.Head.Src, p.Head.Dst = e.setup.Src, e.setup.Dst
	p.Head.X, p.Head.Seq = true, e.next
	b, _ := pkt.Put(p) // there is room for all that an end makes
	e.view.Gss = e.next
	e.next = seq.Add(e.next, 1)
	e.out = append(e.out, b)
}

// send lets a packet go that has nothing but its numbers.
func (e *End) send(t int, ack uint64) {
	e.put(api.Pkt{Head: api.Head{Type: t, Ack: ack}})
}

// sendReset tells the other end why there is nothing any more.
func (e *End) sendReset(code int, ack uint64) {
	e.put(api.Pkt{Head: api.Head{Type: api.TReset, Ack: ack, Code: code}})
}

// sendRequest asks the other end.
func (e *End) sendRequest() {
	e.put(api.Pkt{Head: api.Head{Type: api.TRequest, Service: e.setup.Service}, Opts: e.options(api.TRequest)})
}

// sendResponse answers the Request of the number ack.
func (e *End) sendResponse(ack uint64) {
	e.put(api.Pkt{Head: api.Head{Type: api.TResponse, Ack: ack, Service: e.setup.Service}, Opts: e.options(api.TResponse)})
}

// sendPlainAck lets an Ack go that tells nothing of what was got.
func (e *End) sendPlainAck() {
	e.put(api.Pkt{Head: api.Head{Type: api.TAck, Ack: e.view.Gsr}, Opts: e.options(api.TAck)})
}

// sendAck tells what was got, and how fast.
func (e *End) sendAck() {
	ack, os := e.vector()
	x, p := e.feed.Tell(e.now)
	os = append(os, tell(api.OLoss, p), tell(api.ORate, x/parts))
	e.put(api.Pkt{Head: api.Head{Type: api.TAck, Ack: ack}, Opts: e.options(api.TAck, os...)})
}

// sendWaiting lets the datagrams go that wait, the eldest first, as far as they may.
func (e *End) sendWaiting() {
	for e.isOpen() {
		d, ok := e.queue.First()
		if !ok || !e.maySend(d) {
			return
		}
		e.queue.Take()
		e.sendData(d)
	}
}

// maySend tells whether d may go now.
func (e *End) maySend(d string) bool {
	if _, ok := ctrl.Window(e.control); ok && e.sent.Out() >= maxOut {
		return false
	}
	return e.control.May(e.now, len(d))
}

// sendData lets d go, which may.
func (e *End) sendData(d string) {
	if !e.sent.Put(e.next, e.now) {
		// There is no room: what has been out for so long won't be heard of.
		e.sent.LoseAll()
		e.sent.Put(e.next, e.now)
	}
	e.control.Sent(e.now, e.next, len(d))
	ack, os := e.vector()
	e.put(api.Pkt{Head: api.Head{Type: api.TDataAck, Ack: ack}, Opts: e.options(api.TDataAck, os...), Data: d})
}

// vector is what was got, as an option, and the number that it begins with.
func (e *End) vector() (ack uint64, os []api.Opt) {
	newest, ok := e.got.Newest()
	if !ok {
		return e.view.Gsr, nil
	}
	// A Got spans so few numbers that its vector is one text.
	for _, text := range vec.Put(e.got.Cells()...) {
		os = append(os, api.Opt{Type: api.OVector0, Data: text})
	}
	return newest, os
}

// options are all that go with a packet of type t: the answers that are due, what this end asks for, and more. Answers that the packet has no room for go with the next one.
func (e *End) options(t int, more ...api.Opt) []api.Opt {
	rest := append(e.nego.Opts(), more...)
	room := maxAhead - head.Size(t, true)
	for _, o := range rest {
		room -= optLead + len(o.Data)
	}
	n := 0
	for _, o := range e.answers {
		if room -= optLead + len(o.Data); room < 0 {
			break
		}
		n++
	}
	os := slices.Concat(e.answers[:n], rest)
	e.answers = slices.Delete(e.answers, 0, n)
	return os
}

// tell is n as an option of four bytes.
func tell(t int, n uint64) api.Opt {
	return api.Opt{Type: t, Data: opt.Bytes(min(n, maxNumber), numberLen)}
}
