package ctrl

import (
	"math"
	"testing"

	"muleteer/sent"
)

func TestWindowSends(t *testing.T) {
	play(t, "up to Cwnd, however many bytes", 2, 100,
		then{kind(), 2},
		then{window(), "3 1000000 0 true"},
		then{due(), "0 false"},
		then{may(5, 0), true},
		then{may(5, -1), true},
		then{may(5, 1401), true},
		then{may(5, math.MaxInt), true},
		then{may(math.MinInt64, math.MinInt), true},
		then{window(), "3 1000000 0 true"},
		then{due(), "0 false"},
		then{send(7, 10, 99999), true},
		then{due(), "3000007 true"},
		then{send(20, 11, -1), true},
		then{window(), "3 1000000 2 true"},
		then{send(30, 12, math.MinInt), true},
		then{due(), "3000007 true"},
		then{may(40, 0), false},
		then{may(1<<50, 1), false},
		then{send(40, 13, 0), false},
		then{send(1<<50, 13, 1), false},
		then{window(), "3 1000000 3 true"},
		then{due(), "3000007 true"},
	)
	play(t, "the size counts nothing", 2, 1,
		then{send(0, 1, 1400), true},
		then{send(0, 2, 1400), true},
		then{send(0, 3, 1400), true},
		then{send(0, 4, 1), false},
	)
}

func TestWindowHears(t *testing.T) {
	play(t, "what was got, with an Rtt", 2, 100,
		then{send(0, 1, 0), true},
		then{send(0, 2, 0), true},
		then{send(0, 3, 0), true},
		then{hear(10, sent.Heard{Got: []uint64{1, 2}, Rtt: 100000}, 5, 5), ""},
		then{window(), "5 1000000 1 true"},
		then{due(), "300010 true"},
	)
	play(t, "what was lost, without an Rtt", 2, 100,
		then{hear(0, sent.Heard{Got: make([]uint64, 5), Rtt: -1}, 0, 0), ""},
		then{send(0, 1, 0), true},
		then{send(0, 2, 0), true},
		then{send(0, 3, 0), true},
		then{hear(10, sent.Heard{Lost: []uint64{1}, Rtt: -1}, 0, 0), ""},
		then{window(), "4 4 2 true"},
		then{due(), "3000010 true"},
		then{hear(20, sent.Heard{Lost: []uint64{2}, Rtt: -1}, 0, 0), ""},
		then{window(), "4 4 1 true"},
		then{hear(30, sent.Heard{Rtt: -1}, 0, 0), ""},
		then{due(), "3000030 true"},
		then{send(40, 4, 0), true},
		then{hear(50, sent.Heard{Lost: []uint64{3, 4}, Rtt: -1}, 0, 0), ""},
		then{window(), "2 2 0 true"},
		then{due(), "0 false"},
	)
	play(t, "marks, and a late one", 2, 100,
		then{send(0, 7, 0), true},
		then{hear(10, sent.Heard{Got: []uint64{7}, Marks: 1, Rtt: -1}, 0, 0), ""},
		then{window(), "2 2 0 true"},
		then{send(20, 8, 0), true},
		then{hear(30, sent.Heard{Late: []uint64{8}, Marks: 1, Rtt: -1}, 0, 0), ""},
		then{window(), "1 1 1 true"},
	)
	for _, told := range []uint64{0, 1, 1 << 30, math.MaxUint64} {
		play(t, "what the receiver told counts nothing", 2, 100,
			then{send(0, 1, 0), true},
			then{hear(10, sent.Heard{Got: []uint64{1}, Rtt: 1000}, told, told), ""},
			then{window(), "4 1000000 0 true"},
			then{hear(10, sent.Heard{Got: []uint64{2}, Rtt: -1}, 0, told), ""},
			then{hear(10, sent.Heard{Got: []uint64{3}, Rtt: -1}, told, 0), ""},
			then{window(), "6 1000000 0 true"},
		)
	}
}

func TestWindowFires(t *testing.T) {
	play(t, "when nothing is heard", 2, 100,
		then{fire(1 << 50), false},
		then{send(100, 1, 0), true},
		then{fire(3000099), false},
		then{window(), "3 1000000 1 true"},
		then{fire(3000100), true},
		then{window(), "1 1 0 true"},
		then{due(), "0 false"},
		then{fire(1 << 50), false},
		then{send(4000000, 2, 0), true},
		then{due(), "10000000 true"},
		then{fire(math.MaxInt64), true},
	)
}
