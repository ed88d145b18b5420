package ctrl

import (
	"fmt"
	"math"
	"testing"

	"muleteer/pace"
	"muleteer/sent"
	"muleteer/tfrc"
)

const (
	much = 1 << 30 // a rate that bounds nothing here
	all  = 1 << 32 // a loss of each one
	none = math.MaxUint64
)

func TestRateBeginsWithTheFirstCall(t *testing.T) {
	for _, first := range []struct {
		name string
		do   step
		want any
	}{
		{"May of 0", may(5000000, 0), true},
		{"May of some", may(5000000, 1), false},
		{"May of too few", may(5000000, -1), false},
		{"May of too many", may(5000000, 65536), false},
		{"Sent of 0", send(5000000, 1, 0), true},
		{"Sent of some", send(5000000, 1, 1), false},
		{"Sent of too few", send(5000000, 1, math.MinInt), false},
		{"Sent of too many", send(5000000, 1, math.MaxInt), false},
		{"Hear without an Rtt", answer(5000000, -1, much, 5), ""},
		{"Hear of the least Rtt", answer(5000000, math.MinInt64, much, 5), ""},
		{"Fire", fire(5000000), false},
	} {
		play(t, "the first call: "+first.name, 3, 100,
			then{first.do, first.want},
			then{when(0), 5000000},
			then{when(1), 5000000 + aByte},
			then{may(5000000, 1), false},
			then{may(5000000+aByte-1, 1), false},
			then{may(5000000+aByte, 2), false},
			then{may(5000000+aByte, 1), true},
			then{send(5000000+100*aByte, 9, 101), false},
			then{send(5000000+100*aByte, 9, 100), true},
			then{when(1), 5000000 + 101*aByte},
		)
	}
	play(t, "the first call: Hear with an Rtt", 3, 100,
		then{answer(5000000, 100000, much, 0), ""},
		then{when(0), 5000000},
		then{may(5000249, 1), false},
		then{may(5000250, 1), true},
	)
	play(t, "the first call: Fire of a Tfrc that was started", 3, 100,
		then{its(func(r *tfrc.Tfrc) { r.Start(3000000) }), ""},
		then{fire(5000000), true},
		then{when(0), 5000000},
		then{may(5000000+2*aByte-1, 1), false},
		then{may(5000000+2*aByte, 1), true},
	)
	play(t, "what is no such call", 3, 100,
		then{kind(), 3},
		then{due(), "0 false"},
		then{rate(), fmt.Sprint(6400, 0, 0, uint64(none))},
		then{room(), "89600000000 true"},
		then{when(0), 0},
		then{when(1), never},
		then{bucket(func(b *pace.Pace) bool { return b.May(4000000, 1) }), false},
		then{when(1), never},
		then{may(5000000, 1), false},
		then{may(5000000+aByte, 2), false},
		then{may(5000000+aByte, 1), true},
	)
	play(t, "the first call at a time below 0", 3, 100,
		then{may(-1000000, 0), true},
		then{when(0), 0},
		then{may(aByte, 2), false},
		then{may(aByte, 1), true},
	)
}

func TestRateSends(t *testing.T) {
	play(t, "no more than the bucket has", 3, 100,
		then{may(0, 0), true},
		then{may(50*aByte, 51), false},
		then{may(50*aByte, 50), true},
		then{may(50*aByte, 50), true},
		then{send(50*aByte, 1, 30), true},
		then{may(50*aByte, 21), false},
		then{send(50*aByte, 1, 20), true},
		then{send(50*aByte, 1, 1), false},
		then{send(50*aByte, 1, 0), true},
		then{may(5000*aByte, 1401), false},
		then{may(5000*aByte, 1400), true},
		then{send(5000*aByte, 1, 1400), true},
		then{may(5000*aByte, -1), false},
		then{send(5000*aByte, 1, -1), false},
	)
	play(t, "the number counts nothing", 3, 100,
		then{send(0, 5, 0), true},
		then{send(100*aByte, math.MaxUint64, 50), true},
		then{send(100*aByte, 5, 50), true},
		then{send(100*aByte, 0, 1), false},
	)
	play(t, "the first Sent starts the Tfrc", 3, 100,
		then{may(100, 0), true},
		then{answer(100, -1, much, 0), ""},
		then{fire(100), false},
		then{due(), "0 false"},
		then{send(200, 1, 0), true},
		then{due(), "2000200 true"},
		then{send(300, 2, 0), true},
		then{due(), "2000200 true"},
	)
	for _, n := range []int{math.MinInt, -1, 1, 1400, 65535, 65536, math.MaxInt} {
		play(t, "a Sent of what may not be starts it, too", 3, 100,
			then{send(200, 1, n), false},
			then{due(), "2000200 true"},
			then{send(100*aByte, 2, 99), true},
			then{due(), "2000200 true"},
		)
	}
}

func TestRateHears(t *testing.T) {
	play(t, "each rate from the Hear's now on", 3, 100,
		then{may(0, 0), true},
		then{answer(1000000, 100000, much, 0), ""},
		then{rate(), fmt.Sprint(256000, 100000, 0, much)},
		then{due(), "1400000 true"},
		then{when(0), 1000000},
		then{may(1000000, 101), false},
		then{may(1000000, 100), true},
		then{may(1000249, 101), false},
		then{may(1000250, 101), true},
		then{answer(1100000, 100000, much, 0), ""},
		then{rate(), fmt.Sprint(512000, 100000, 0, much)},
		then{when(0), 1100000},
		then{may(1100000, 501), false},
		then{may(1100000, 500), true},
		then{may(1100124, 501), false},
		then{may(1100125, 501), true},
		then{answer(1101000, 100000, 0, all), ""},
		then{rate(), fmt.Sprint(263, 100000, all, much)},
		then{may(1101000, 508), true},
		then{may(1101000, 509), false},
		then{may(1340000, 508), true},
		then{may(1340000, 509), false},
		then{may(1345000, 509), true},
	)
	play(t, "an Rtt of 0 is one", 3, 100,
		then{answer(1000000, 0, much, 0), ""},
		then{rate(), fmt.Sprint(25600000000, 1, 0, much)},
		then{room(), "256000000000000 true"},
	)
	play(t, "without an Rtt nothing is heard", 3, 100,
		then{may(0, 0), true},
		then{hear(1000000, sent.Heard{Got: []uint64{1}, Lost: []uint64{2}, Late: []uint64{3}, Marks: 2, Rtt: -1}, much, all), ""},
		then{rate(), fmt.Sprint(6400, 0, 0, uint64(none))},
		then{due(), "0 false"},
		then{when(0), 0},
		then{may(1000000, 100), true},
		then{answer(1000000, 100000, much, all/100), ""},
		then{rate(), fmt.Sprint(718926, 100000, all/100, much)},
		then{answer(1100000, -1, 5, all), ""},
		then{answer(1100000, math.MinInt64, 5, all), ""},
		then{rate(), fmt.Sprint(718926, 100000, all/100, much)},
		then{due(), "1400000 true"},
		then{when(0), 1000000},
	)
	play(t, "what was got and lost counts nothing", 3, 100,
		then{hear(1000000, sent.Heard{Lost: []uint64{1, 2, 3}, Marks: 9, Rtt: 100000}, much, 0), ""},
		then{rate(), fmt.Sprint(256000, 100000, 0, much)},
	)
	play(t, "it is not limited: what was told of late bounds", 3, 100,
		then{answer(1000000, 100000, 3000, 0), ""},
		then{rate(), "256000 100000 0 3000"},
		then{answer(2000000, 100000, 1000, 0), ""},
		then{rate(), "256000 100000 0 1000"},
		then{answer(2010000, 100000, 700, all/100), ""},
		then{rate(), "2000 100000 42949672 1000"},
	)
	play(t, "a Hear that leaves the rate does not touch the bucket", 3, 100,
		then{answer(1000000, 100000, much, 0), ""},
		then{answer(1050000, 100000, much, 0), ""},
		then{rate(), fmt.Sprint(256000, 100000, 0, much)},
		then{when(0), 1000000},
		then{due(), "1450000 true"},
	)
}

func TestRateFires(t *testing.T) {
	play(t, "ahead of any answer", 3, 100,
		then{fire(0), false},
		then{fire(1 << 40), false},
		then{rate(), fmt.Sprint(6400, 0, 0, uint64(none))},
	)
	play(t, "half of it, from the Fire's now on", 3, 100,
		then{send(0, 1, 0), true},
		then{fire(1999999), false},
		then{when(0), 0},
		then{fire(2000000), true},
		then{rate(), fmt.Sprint(3200, 0, 0, uint64(none))},
		then{when(0), 2000000},
		then{may(2000000, 200), true},
		then{may(2000000+2*aByte-1, 201), false},
		then{may(2000000+2*aByte, 201), true},
		then{due(), "6000000 true"},
		then{fire(5999999), false},
		then{fire(6000000), true},
		then{rate(), fmt.Sprint(1600, 0, 0, uint64(none))},
	)
	play(t, "a Fire that leaves the rate does not touch the bucket", 3, 100,
		then{answer(1000000, 100000, 0, 0), ""},
		then{answer(1100000, 100000, 0, all), ""},
		then{rate(), fmt.Sprint(100, 100000, all, 0)},
		then{due(), "129100000 true"},
		then{fire(129100000), true},
		then{rate(), fmt.Sprint(100, 100000, all, 50)},
		then{when(0), 1100000},
		then{due(), "0 false"},
		then{fire(1 << 50), false},
	)
	play(t, "the bucket's room goes with the rate", 3, 1400,
		then{answer(1000000, 1000, much, 0), ""},
		then{rate(), fmt.Sprint(280320000, 1000, 0, much)},
		then{room(), "2803200000000 true"},
		then{may(1009999, 43799), false},
		then{may(1010000, 43800), true},
		then{may(1020000, 43800), true},
		then{may(1020000, 43801), false},
		then{fire(1020000), true},
		then{rate(), fmt.Sprint(140160000, 1000, 0, 70080000)},
		then{room(), "1401600000000 true"},
		then{may(1020000, 21900), true},
		then{may(1020000, 21901), false},
		then{send(1020000, 1, 21900), true},
		then{answer(1030000, 1000, much, 0), ""},
		then{may(1030000, 21900), true},
		then{may(1030000, 21901), false},
		then{room(), "2803200000000 true"},
	)
}

// Whoever has the very Tfrc may change its rate; the bucket gets it with the Control's next call, whatever else that does.
func TestBucketFollowsTheTfrcItself(t *testing.T) {
	for _, next := range []struct {
		name string
		do   step
		want any
	}{
		{"May", may(1100000, 101), true},
		{"May of too many", may(1100000, 65536), false},
		{"Sent", send(1100000, 1, 0), true},
		{"Sent of too many", send(1100000, 1, 65536), false},
		{"Hear without an Rtt", answer(1100000, -1, 5, 5), ""},
		{"Fire", fire(1100000), false},
	} {
		play(t, "the next call: "+next.name, 3, 100,
			then{may(0, 0), true},
			then{its(func(r *tfrc.Tfrc) { r.Hear(1000000, 100000, much, 0, false) }), ""},
			then{rate(), fmt.Sprint(256000, 100000, 0, much)},
			then{when(0), 0},
			then{next.do, next.want},
			then{when(0), 1100000},
			then{may(1100000, 110), true},
			then{may(1100000, 111), false},
			then{may(1100249, 111), false},
			then{may(1100250, 111), true},
		)
	}
	play(t, "a rate that went down and up again", 3, 1400,
		then{answer(1000000, 1000, much, 0), ""},
		then{may(1010000, 43800), true},
		then{its(func(r *tfrc.Tfrc) { r.Fire(1010000) }), ""},
		then{answer(1010000, 1000, much, 0), ""},
		then{rate(), fmt.Sprint(280320000, 1000, 0, much)},
		then{may(1010000, 21900), true},
		then{may(1010000, 21901), false},
	)
}
