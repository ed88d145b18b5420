package pair

import "muleteer/api"

// Calm passes all that there is, and lets the time go on, until nothing more is due within d; false: most turns were too few for that.
func (p *Pair) Calm(d int64, most int) bool {
	if p == nil {
		return false
	}
	for turns := 0; p.isBusy(d); turns++ {
		if turns >= most {
			return false
		}
		p.turn()
	}
	return true
}

// isBusy tells whether there is something on a way, or due within d.
func (p *Pair) isBusy(d int64) bool {
	at, ok := p.due()
	return p.isOnWay() || ok && at <= p.now+min(d, latest-p.now)
}

// turn passes all that is on the ways; where there is nothing, the time goes to when the next thing is due.
func (p *Pair) turn() {
	if !p.isOnWay() {
		at, _ := p.due()
		p.clock(at)
		return
	}
	for i := range p.ends {
		// What an end tells goes to the other one, so this comes to an end.
		for p.Do(api.Pick{Kind: api.KPass, I: i}) {
		}
	}
}

// isOnWay tells whether there is something on a way.
func (p *Pair) isOnWay() bool {
	return len(p.ways[0])+len(p.ways[1]) > 0
}

// due is the least time at which an end has something to do; false: none has.
func (p *Pair) due() (int64, bool) {
	at, ok := p.ends[0].Due()
	if other, is := p.ends[1].Due(); is && (!ok || other < at) {
		return other, true
	}
	return at, ok
}
