package end

import (
	"slices"

	"muleteer/api"
	"muleteer/ctrl"
	"muleteer/feat"
	"muleteer/fix"
	"muleteer/head"
	"muleteer/opt"
	"muleteer/pkt"
	"muleteer/seq"
	"muleteer/valid"
	"muleteer/vec"
)

// Why there is nothing any more, as a Reset tells.
const (
	codeClosed  = 1
	codeOption  = 6
	codeService = 8
)

const maxSyncs = 8 // that go out within a second

// Recv takes bytes that came.
func (e *End) Recv(now int64, b string) []string {
	if !e.made() {
		return nil
	}
	e.pass(now)
	p, errno := pkt.Get(b)
	if errno != api.OK {
		e.dropped++
		return nil
	}
	v := e.View()
	p = valid.Long(v, p)
	switch valid.Check(v, p) {
	case valid.Good:
		e.hear(p)
	case valid.Sync:
		ack, _ := valid.Answer(v, p)
		e.askBack(ack)
	default:
		e.dropped++
	}
	return e.told()
}

// askBack asks the other end where it is, but not too often.
func (e *End) askBack(ack uint64) {
	e.syncs = slices.DeleteFunc(e.syncs, func(until int64) bool { return until <= e.now })
	if len(e.syncs) < maxSyncs {
		e.syncs = append(e.syncs, e.now+second)
		e.send(api.TSync, ack)
	}
}

// hear takes a good packet.
func (e *End) hear(p api.Pkt) {
	if e.view.State == api.SListen && p.Head.Service != e.setup.Service {
		e.sendReset(codeService, p.Head.Seq)
		return
	}
	e.note(p.Head)
	if !e.agree(p) {
		e.refuse(codeOption)
		return
	}
	isNew := e.get(p)
	if e.opens(p.Head.Type) {
		e.open()
	}
	e.hearVector(p)
	e.answer(p, isNew)
	e.sendWaiting()
	if len(e.out) == 0 && len(e.answers) > 0 && !e.isGone() {
		e.sendAck()
	}
}

// note keeps the numbers that a packet has.
func (e *End) note(h api.Head) {
	if e.isAlone() {
		e.view.Isr, e.view.Gsr = h.Seq, h.Seq
	}
	e.view.Gsr = seq.Max(e.view.Gsr, h.Seq)
	if head.HasAck(h.Type) {
		e.view.Gar = seq.Max(e.view.Gar, h.Ack)
	}
}

// agree takes the options of a packet; false: they can't be.
func (e *End) agree(p api.Pkt) bool {
	if p.Head.Type == api.TData {
		return true
	}
	if !e.nego.Take(p.Opts) {
		return false
	}
	for _, o := range e.nego.Opts() {
		// What this end asks for nego tells again with each packet, its answers just now.
		if o.Type != api.OChangeL {
			e.answers = append(e.answers, o)
		}
	}
	if e.view.State == api.SOpen && e.nego.Done() {
		e.timer = timer{}
	}
	return true
}

// get keeps that a packet was got; false: it was there, or is too old. Those by which the ends find one another tell nothing of the way.
func (e *End) get(p api.Pkt) bool {
	if p.Head.Type == api.TRequest || p.Head.Type == api.TResponse {
		return false
	}
	e.feed.Put(e.now, p.Head.Seq, len(p.Data))
	return e.got.Put(p.Head.Seq, false)
}

// opens tells whether a packet of type t shows that the other end knows of this one.
func (e *End) opens(t int) bool {
	switch e.view.State {
	case api.SRespond:
		return t == api.TAck || t == api.TDataAck || t == api.TData
	case api.SPartOpen:
		return t != api.TSync && t != api.TSyncAck && t != api.TReset
	}
	return false
}

// open opens the end whole, to send by what was agreed on.
func (e *End) open() {
	e.view.State = api.SOpen
	e.timer = timer{}
	if !e.nego.Done() {
		e.timer = after(e.now, second, longestWait)
	}
	if kind := kindOf(e.Mine(api.FCcid)); e.control == nil || e.control.Kind() != kind {
		e.control = ctrl.Of(kind, e.setup.Size)
	}
}

// hearVector hears what a packet tells of those that this end sent.
func (e *End) hearVector(p api.Pkt) {
	text, ok := opt.Find(p.Opts, api.OVector0)
	if !ok || !head.HasAck(p.Head.Type) || e.control == nil {
		return
	}
	cells, ok := vec.Get(text)
	if !ok {
		return
	}
	h := e.sent.Hear(p.Head.Ack, cells, e.now)
	e.control.Hear(e.now, h, fix.Mul(parts, toldBy(p, api.ORate)), toldBy(p, api.OLoss))
}

// toldBy is the number that a packet's option of type t tells, 0 of none.
func toldBy(p api.Pkt, t int) uint64 {
	data, _ := opt.Find(p.Opts, t)
	n, _ := opt.Number(data)
	return n
}

// answer does what a good packet asks for by its type.
func (e *End) answer(p api.Pkt, isNew bool) {
	switch p.Head.Type {
	case api.TRequest:
		e.view.State = api.SRespond
		e.sendResponse(p.Head.Seq)
	case api.TResponse:
		e.openInPart()
	case api.TData, api.TDataAck:
		if isNew {
			e.taken = append(e.taken, p.Data)
		}
		e.sendAck()
	case api.TAck:
		if _, ok := opt.Find(p.Opts, api.OVector0); !ok {
			e.sendAck()
		}
	case api.TCloseReq:
		if !e.setup.Server {
			e.beginClosing()
		}
	case api.TClose:
		e.refuse(codeClosed)
	case api.TReset:
		e.end()
	case api.TSync:
		e.send(api.TSyncAck, p.Head.Seq)
	}
}

// openInPart opens the end, which doesn't know yet whether the other end knows of that.
func (e *End) openInPart() {
	e.view.State = api.SPartOpen
	e.control = ctrl.Of(kindOf(feat.Default(api.FCcid)), e.setup.Size)
	e.sendPlainAck()
	e.timer = after(e.now, partOpen, partOpen)
}

// beginClosing closes what was open: a server asks the client to. Where it closes already, it begins anew.
func (e *End) beginClosing() {
	if e.setup.Server {
		e.view.State = api.SCloseReq
		e.send(api.TCloseReq, e.view.Gsr)
	} else {
		e.view.State = api.SClosing
		e.send(api.TClose, e.view.Gsr)
	}
	e.timer = after(e.now, closing, longestWait)
}

// refuse tells the other end that there is nothing any more.
func (e *End) refuse(code int) {
	e.sendReset(code, e.view.Gsr)
	e.stop()
}

// end hears that the other end has nothing any more.
func (e *End) end() {
	if e.view.State != api.SClosing {
		e.stop()
		return
	}
	e.view.State = api.STimeWait
	e.timer = after(e.now, timeWait, timeWait)
}

// isGone tells whether nothing goes out any more.
func (e *End) isGone() bool {
	return e.view.State == api.SClosed || e.view.State == api.STimeWait
}

// kindOf is the kind of Control that a value of FCcid is.
func kindOf(value string) int {
	return int(value[0])
}
