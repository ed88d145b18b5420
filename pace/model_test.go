package pace

import "math/big"

// model is the chapter's words, in numbers that have no end.
type model struct {
	s, tick, rate, have, last *big.Int
}

func newModel(s int, tick int64) *model {
	return &model{s: big.NewInt(int64(s)), tick: big.NewInt(tick), rate: new(big.Int), have: new(big.Int), last: new(big.Int)}
}

func power(k uint) *big.Int {
	return new(big.Int).Lsh(big.NewInt(1), k)
}

func lesser(a, b *big.Int) *big.Int {
	if a.Cmp(b) < 0 {
		return a
	}
	return b
}

func greater(a, b *big.Int) *big.Int {
	if a.Cmp(b) > 0 {
		return a
	}
	return b
}

// bytes are n bytes in parts; false: n may not be.
func bytes(n int) (*big.Int, bool) {
	if n < 0 || n > 65535 {
		return nil, false
	}
	return new(big.Int).Mul(big.NewInt(64000000), big.NewInt(int64(n))), true
}

func (m *model) cap() *big.Int {
	greatest := new(big.Int).Sub(power(64), big.NewInt(1))
	one := new(big.Int).Mul(big.NewInt(64000000), m.s)
	return greater(one, lesser(greatest, new(big.Int).Mul(m.rate, m.tick)))
}

// at is what the bucket has at a time that isn't ahead of the last call's.
func (m *model) at(time *big.Int) *big.Int {
	came := new(big.Int).Sub(time, m.last)
	came.Mul(came, m.rate)
	return lesser(m.cap(), came.Add(came, m.have))
}

func (m *model) fill(now int64) {
	time := greater(m.last, lesser(big.NewInt(now), power(62)))
	m.have, m.last = m.at(time), time
}

func (m *model) setRate(now int64, x uint64) {
	m.fill(now)
	m.rate = new(big.Int).SetUint64(x)
	m.have = lesser(m.have, m.cap())
}

func (m *model) may(now int64, n int) bool {
	m.fill(now)
	need, ok := bytes(n)
	return ok && m.have.Cmp(need) >= 0
}

func (m *model) take(now int64, n int) bool {
	ok := m.may(now, n)
	if ok {
		need, _ := bytes(n)
		m.have = new(big.Int).Sub(m.have, need)
	}
	return ok
}

// when looks for the first time by halves, since what the bucket has grows no less as time goes by.
func (m *model) when(n int) int64 {
	need, ok := bytes(n)
	if !ok || m.at(power(62)).Cmp(need) < 0 {
		return 1 << 62
	}
	from, to := m.last.Int64(), int64(1<<62)
	if m.have.Cmp(need) >= 0 {
		return from
	}
	for from < to {
		middle := from + (to-from)/2
		if m.at(big.NewInt(middle)).Cmp(need) < 0 {
			from = middle + 1
		} else {
			to = middle
		}
	}
	return to
}
