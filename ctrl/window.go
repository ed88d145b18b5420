package ctrl

import (
	"muleteer/sent"
	"muleteer/win"
)

// byWindow leads by how many packets are on their way; how long they are counts nothing.
type byWindow struct {
	win *win.Win
}

// Kind is the kind that Of was asked for.
func (w *byWindow) Kind() int { return windowKind }

// May tells whether one more packet may be sent.
func (w *byWindow) May(_ int64, _ int) bool {
	return w.win.May()
}

// Sent tells that the packet s is sent; false: it may not be.
func (w *byWindow) Sent(now int64, s uint64, _ int) bool {
	return w.win.Sent(s, now)
}

// Hear takes what was heard of packets that were sent.
func (w *byWindow) Hear(now int64, h sent.Heard, _, _ uint64) {
	w.win.Hear(h, now)
}

// Fire tells that it is now; false: nothing has been awaited for too long.
func (w *byWindow) Fire(now int64) bool {
	return w.win.Fire(now)
}

// Due is from when on Fire does something; false: it waits for nothing.
func (w *byWindow) Due() (int64, bool) {
	return w.win.Due()
}
