package end

import (
	"muleteer/api"
	"muleteer/ctrl"
)

// How long one waits, in microseconds.
const (
	second      = api.Second
	partOpen    = 200000       // from one Ack to the next while the other end may not know that this one is open
	closing     = 400000       // until a Close or a CloseReq goes again
	longestWait = 64 * second  // for what goes again, each time twice as long
	timeWait    = 240 * second // for what may still be on its way behind a Reset
)

// timer is when something goes again, or ends.
type timer struct {
	at, wait, most int64
	runs           bool
}

// after is a timer that runs for wait, then each time for twice as long, at most most.
func after(now, wait, most int64) timer {
	return timer{at: min(now+wait, latest), wait: wait, most: most, runs: true}
}

// again is the timer as it runs on from now.
func (t timer) again(now int64) timer {
	return after(now, min(2*t.wait, t.most), t.most)
}

// isDue tells whether what it runs for is to be done now.
func (t timer) isDue(now int64) bool {
	return t.runs && t.at <= now
}

// Clock does all that is due.
func (e *End) Clock(now int64) []string {
	if !e.made() {
		return nil
	}
	e.pass(now)
	if e.timer.isDue(e.now) {
		e.goOn()
	}
	e.fire()
	e.sendWaiting()
	return e.told()
}

// Due is from when on Clock does something; false: it waits for nothing.
func (e *End) Due() (int64, bool) {
	if !e.made() {
		return 0, false
	}
	least, ok := e.timer.at, e.timer.runs
	for _, next := range []func() (int64, bool){e.controlDue, e.bucketDue} {
		if at, is := next(); is && (!ok || at < least) {
			least, ok = at, true
		}
	}
	return least, ok
}

// goOn does what the timer runs for.
func (e *End) goOn() {
	switch e.view.State {
	case api.SRequest:
		e.sendRequest()
	case api.SPartOpen:
		e.sendPlainAck()
	case api.SOpen:
		e.sendAck()
	case api.SCloseReq:
		e.send(api.TCloseReq, e.view.Gsr)
	case api.SClosing:
		e.send(api.TClose, e.view.Gsr)
	case api.STimeWait:
		e.stop()
		return
	}
	e.timer = e.timer.again(e.now)
}

// fire gives all up that is out, if the Control waited for it too long.
func (e *End) fire() {
	at, ok := e.controlDue()
	// A Control that is asked ahead of its time would begin to count the time.
	if ok && at <= e.now && e.control.Fire(e.now) {
		e.sent.LoseAll()
	}
}

// controlDue is when the Control has waited too long; false: it doesn't wait.
func (e *End) controlDue() (int64, bool) {
	if e.control == nil {
		return 0, false
	}
	return e.control.Due()
}

// bucketDue is when the bucket lets the eldest datagram go; false: there is no bucket, no datagram, no such time.
func (e *End) bucketDue() (int64, bool) {
	bucket, ok := ctrl.Bucket(e.control)
	d, waits := e.queue.First()
	if !ok || !waits || !e.isOpen() {
		return 0, false
	}
	at := bucket.When(len(d))
	if at >= latest {
		return 0, false
	}
	return at, true
}
