package ctrl

import (
	"muleteer/pace"
	"muleteer/sent"
	"muleteer/tfrc"
)

// byRate leads by a rate: its bucket fills at it, and lets bytes go.
type byRate struct {
	tfrc *tfrc.Tfrc
	pace *pace.Pace
	// The rate that the bucket was given last; 0: none yet, for a Tfrc's is never 0.
	given uint64
}

// Kind is the kind that Of was asked for.
func (r *byRate) Kind() int { return rateKind }

// May tells whether n bytes may be sent.
func (r *byRate) May(now int64, n int) bool {
	r.follow(now)
	return r.pace.May(now, n)
}

// Sent tells that n bytes are sent; false: they may not be.
func (r *byRate) Sent(now int64, _ uint64, n int) bool {
	r.follow(now)
	r.tfrc.Start(now)
	return r.pace.Take(now, n)
}

// Hear takes what was heard of packets that were sent, and what the receiver told with it: the rate x that it got, the loss p.
func (r *byRate) Hear(now int64, h sent.Heard, x, p uint64) {
	r.follow(now)
	if h.Rtt < 0 {
		return
	}
	r.tfrc.Hear(now, h.Rtt, x, p, false)
	r.follow(now)
}

// Fire tells that it is now; false: nothing has been awaited for too long.
func (r *byRate) Fire(now int64) bool {
	r.follow(now)
	fired := r.tfrc.Fire(now)
	r.follow(now)
	return fired
}

// Due is from when on Fire does something; false: it waits for nothing.
func (r *byRate) Due() (int64, bool) {
	return r.tfrc.Due()
}

// follow gives the bucket the rate, if that is another one by now. Each call begins with it, because whoever has the Tfrc may have changed that, too.
func (r *byRate) follow(now int64) {
	if rate := r.tfrc.Rate(); rate != r.given {
		r.pace.Rate(now, rate)
		r.given = rate
	}
}
