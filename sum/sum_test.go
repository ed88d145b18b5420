package sum

import (
	"fmt"
	"math"
	"math/big"
	"math/rand"
	"slices"
	"strings"
	"testing"
)

// edges are numbers at which a reckoning turns: beside 0, beside the ends of 8, 16, 32 and 63 bits, and beside the greatest number that a cover adds.
func edges() []int {
	ns := []int{math.MinInt, math.MinInt + 1, math.MaxInt - 57, math.MaxInt - 56, math.MaxInt - 55, math.MaxInt - 4, math.MaxInt - 1, math.MaxInt}
	for _, n := range []int{0, 4, 12, 15, 56, 60, 255, 1400, 2500, 1<<16 - 1, 1 << 16, 1<<32 - 1, 1 << 32, 1 << 62} {
		ns = append(ns, n-1, n, n+1, -n)
	}
	return ns
}

// texts are byte strings of odd and even lengths, of what turns a sum and of thrown bytes, the same in every run.
func texts() []string {
	ss := []string{"", "\x00", "\x00\x00", "\x00\x00\x00", "\x01", "\x00\x01", "\x01\x02", "\x01\x02\x03", "\x01\x02\x03\x04", "\xff", "\xff\xff", "\xff\xff\xff", "\xff\xff\xff\xff", "\xff\xff\x00\x01", "\xff\xff\xff\xff\x00\x01", "\xff\x00", "\xff\x00\x00\xff", "\xff\x00\x01", "\x80", "\x80\x00\x80\x00", "\xc3\xa4\xe2\x82\xac", "\x7f\xff\x80\x00"}
	r := rand.New(rand.NewSource(1))
	for n := range 60 {
		b := make([]byte, n)
		r.Read(b)
		ss = append(ss, string(b))
	}
	return append(ss, strings.Repeat("\xff", 70001), strings.Repeat("\xfe\xff", 300000), strings.Repeat("\x01\x80\x7f", 55555))
}

// wantOf takes the bytes as one long number: 2^16 has the rest 1 modulo 2^16 - 1, so a sum of words has the rest of the number.
func wantOf(s string) int {
	if len(s)%2 == 1 {
		s += "\x00"
	}
	long := new(big.Int).SetBytes([]byte(s))
	rest := new(big.Int).Mod(long, big.NewInt(65535)).Int64()
	if rest == 0 && long.Sign() > 0 {
		rest = 65535
	}
	return int(65535 - rest)
}

// wantFits lays the two bytes behind s and sums all.
func wantFits(sum int, s string) bool {
	if sum < 0 || sum > 65535 {
		return false
	}
	if len(s)%2 == 1 {
		s += "\x00"
	}
	return wantOf(s+string([]byte{byte(sum / 256), byte(sum % 256)})) == 0
}

// wantCovered reckons with numbers that have no end.
func wantCovered(total, off, cover int) (int, bool) {
	if cover == 0 && off >= 0 && off <= total {
		return total, true
	}
	if cover < 1 || cover > 15 || off < 0 || off > total {
		return 0, false
	}
	n := new(big.Int).Add(big.NewInt(int64(off)), big.NewInt(4*int64(cover-1)))
	if n.Cmp(big.NewInt(int64(total))) > 0 {
		return 0, false
	}
	return int(n.Int64()), true
}

// short is what a failure tells of a text.
func short(s string) string {
	if len(s) > 40 {
		return fmt.Sprintf("%d bytes from %x", len(s), s[:40])
	}
	return fmt.Sprintf("%x", s)
}

// checkText holds the parts' sum and what fits it against the whole text.
func checkText(t *testing.T, parts ...string) {
	t.Helper()
	s := strings.Join(parts, "")
	want := wantOf(s)
	if got := Of(parts...); got != want {
		t.Fatalf("P3.1: Of(%s) in %d parts is %d, not %d", short(s), len(parts), got, want)
	}
	for _, sum := range []int{want, want - 1, want + 1, want ^ 1, want ^ 0x8000, want>>8 | want<<8&0xff00, 65535 - want, 0, 65535, want + 65536, want - 65536, want + 65535, want - 65535, want + 1<<32} {
		if got := Fits(sum, parts...); got != wantFits(sum, s) {
			t.Fatalf("P3.1: Fits(%d, %s) in %d parts is %t", sum, short(s), len(parts), got)
		}
	}
}

func checkCovered(t *testing.T, total, off, cover int) {
	t.Helper()
	want, wantOK := wantCovered(total, off, cover)
	if got, ok := Covered(total, off, cover); got != want || ok != wantOK {
		t.Fatalf("P3.1: Covered(%d, %d, %d) is %d, %t, not %d, %t", total, off, cover, got, ok, want, wantOK)
	}
}

func TestNamedSums(t *testing.T) {
	for _, c := range []struct {
		name  string
		parts []string
		want  int
	}{
		{"a nil list", nil, 0xffff},
		{"an empty list", []string{}, 0xffff},
		{"an empty part", []string{""}, 0xffff},
		{"bytes 0", []string{"\x00\x00\x00\x00"}, 0xffff},
		{"one word, the first byte 256 times", []string{"\x01\x02"}, 0xfefd},
		{"a byte 0 behind one byte", []string{"\x01"}, 0xfeff},
		{"a byte 0 behind three bytes", []string{"\x01\x02\x03"}, 0xfbfd},
		{"a byte 0 behind all, not behind each part", []string{"\x01", "\x02", "\x03"}, 0xfbfd},
		{"a word that begins in one part and ends in another", []string{"\x01\x02\x03", "\x04\x05\x06"}, 0xffff ^ (0x0102 + 0x0304 + 0x0506)},
		{"an empty part between does not turn the bytes about", []string{"\x01", "", "", "\x02"}, 0xfefd},
		{"an empty part ahead", []string{"", "\x01\x02"}, 0xfefd},
		{"all 16 bits set, nothing beyond", []string{"\xff\xff"}, 0},
		{"what goes beyond is added", []string{"\x80\x00\x80\x00"}, 0xfffe},
		{"what goes beyond is added until there is no more", []string{"\xff\xff\xff\xff\x00\x01"}, 0xfffe},
		{"what goes beyond is more than 1", []string{"\xff\xff\xff\xff\xff\xff\x00\x03"}, 0xfffc},
		{"bytes are bytes, not runes", []string{"\xc3\xa4"}, 0xffff ^ 0xc3a4},
		{"each bit is turned", []string{"\x55\xaa"}, 0xaa55},
	} {
		if got := Of(c.parts...); got != c.want {
			t.Errorf("P3.1: %s: Of is %#x, not %#x", c.name, got, c.want)
		}
	}
}

func TestNamedFits(t *testing.T) {
	for _, c := range []struct {
		name  string
		sum   int
		parts []string
		want  bool
	}{
		{"its own sum", 0xfefd, []string{"\x01\x02"}, true},
		{"its own sum, the bytes turned about", 0xfdfe, []string{"\x01\x02"}, false},
		{"one less", 0xfefc, []string{"\x01\x02"}, false},
		{"one more", 0xfefe, []string{"\x01\x02"}, false},
		{"behind an odd number a byte 0 ahead of it", 0xfeff, []string{"\x01"}, true},
		{"behind an odd number, without that byte", 0xfffe, []string{"\x01"}, false},
		{"behind parts that are even together", 0xfefd, []string{"\x01", "\x02"}, true},
		{"behind parts that are odd together", 0xfbfd, []string{"\x01\x02", "\x03"}, true},
		{"no parts", 0xffff, nil, true},
		{"no parts, 0", 0, nil, false},
		{"an empty part", 0xffff, []string{""}, true},
		{"bytes 0", 0xffff, []string{"\x00\x00"}, true},
		{"bytes 0, 0", 0, []string{"\x00\x00"}, false},
		{"a sum of 0", 0, []string{"\xff\xff"}, true},
		{"a sum of 0, and all bits set", 0xffff, []string{"\xff\xff"}, true},
		{"below 0", -1, []string{"\xff\xff"}, false},
		{"below 0, the lowest 16 bits fit", 0xfefd - 1<<16, []string{"\x01\x02"}, false},
		{"below 0, it would fit folded", -65535, []string{"\xff\xff\xff\xff"}, false},
		{"above 65,535", 1 << 16, []string{"\xff\xff"}, false},
		{"above 65,535, the lowest 16 bits fit", 0xfefd + 1<<16, []string{"\x01\x02"}, false},
		{"above 65,535, it would fit folded", 0xfefd + 65535, []string{"\x01\x02"}, false},
		{"the greatest number", math.MaxInt, []string{"\x01\x02"}, false},
		{"the least number", math.MinInt, []string{"\x01\x02"}, false},
	} {
		if got := Fits(c.sum, c.parts...); got != c.want {
			t.Errorf("P3.1: %s: Fits is %t", c.name, got)
		}
	}
}

func TestNamedCovered(t *testing.T) {
	for _, c := range []struct {
		name              string
		total, off, cover int
		n                 int
		ok                bool
	}{
		{"cover 0: all", 100, 20, 0, 100, true},
		{"cover 1: up to the data", 100, 20, 1, 20, true},
		{"cover 2: 4 bytes of data", 100, 20, 2, 24, true},
		{"cover 15: 56 bytes of data", 100, 20, 15, 76, true},
		{"cover 15, all there is", 76, 20, 15, 76, true},
		{"cover 15, one byte too few", 75, 20, 15, 0, false},
		{"cover 1 without data", 20, 20, 1, 20, true},
		{"cover 2 without data", 20, 20, 2, 0, false},
		{"cover 2, three bytes of data", 23, 20, 2, 0, false},
		{"cover 0 without data", 20, 20, 0, 20, true},
		{"data alone", 8, 0, 3, 8, true},
		{"nothing", 0, 0, 0, 0, true},
		{"nothing, up to the data", 0, 0, 1, 0, true},
		{"nothing, and one word", 0, 0, 2, 0, false},
		{"off above total", 20, 21, 0, 0, false},
		{"off above total, cover 1", 20, 21, 1, 0, false},
		{"off below 0", 20, -1, 0, 0, false},
		{"off below 0, the sum within", 20, -4, 3, 0, false},
		{"cover 16", 100, 5, 16, 0, false},
		{"cover below 0", 100, 50, -1, 0, false},
		{"total below 0", -1, 0, 0, 0, false},
		{"total and off below 0", -1, -1, 0, 0, false},
		{"as great as may be", math.MaxInt, math.MaxInt - 56, 15, math.MaxInt, true},
		{"beyond the greatest number", math.MaxInt, math.MaxInt - 55, 15, 0, false},
		{"the greatest number, cover 2", math.MaxInt, math.MaxInt, 2, 0, false},
		{"the greatest number, all", math.MaxInt, math.MaxInt, 0, math.MaxInt, true},
		{"the greatest cover", 100, 5, math.MaxInt, 0, false},
		{"a cover whose 4 times goes round", 100, 5, 1<<62 + 2, 0, false},
		{"the least cover", 100, 5, math.MinInt, 0, false},
	} {
		if n, ok := Covered(c.total, c.off, c.cover); n != c.n || ok != c.ok {
			t.Errorf("P3.1: %s: Covered is %d, %t, not %d, %t", c.name, n, ok, c.n, c.ok)
		}
	}
}

// Parts are one text, wherever it is cut.
func TestCuts(t *testing.T) {
	for _, s := range texts() {
		checkText(t, s)
		if len(s) > 60 {
			checkText(t, s[:len(s)/2], s[len(s)/2:len(s)/2+1], s[len(s)/2+1:])
			continue
		}
		for i := range len(s) + 1 {
			checkText(t, s[:i], s[i:])
			for j := i; j <= len(s); j += 3 {
				checkText(t, s[:i], "", s[i:j], s[j:])
			}
		}
		checkText(t, strings.Split(s, "")...)
	}
}

// Every sum is held against a text: one alone fits, or, of 0 and 65,535, both.
func TestEverySum(t *testing.T) {
	for _, s := range []string{"", "\x00\x00\x00", "\xff\xff", "\x01\x02\x03\x04\x05"} {
		for sum := -3; sum < 65539; sum++ {
			if got := Fits(sum, s); got != wantFits(sum, s) {
				t.Fatalf("P3.1: Fits(%d, %x) is %t", sum, s, got)
			}
		}
	}
}

// Every word alone, and every word behind one that nearly fills 16 bits.
func TestEveryWord(t *testing.T) {
	for n := range 1 << 16 {
		word := string([]byte{byte(n >> 8), byte(n)})
		if got := Of(word); got != 65535-n {
			t.Fatalf("P3.1: Of(%x) is %d", word, got)
		}
		want := 65535 - (n + 0xfff0)
		if n > 15 {
			want += 65535
		}
		if got := Of("\xff\xf0", word); got != want {
			t.Fatalf("P3.1: Of(fff0%x) is %d, not %d", word, got, want)
		}
	}
}

// A spoiled bit is always seen: what fits a text does not fit it with one bit turned.
func TestSpoiled(t *testing.T) {
	for _, s := range texts()[:82] {
		sum := Of(s)
		for i := range 8 * len(s) {
			b := []byte(s)
			b[i/8] ^= 1 << (i % 8)
			if Fits(sum, string(b)) {
				t.Fatalf("P3.1: Fits(%d, %x), the sum of %x", sum, b, s)
			}
		}
	}
}

// A sum of many words is greater than 32 bits.
func TestLong(t *testing.T) {
	block := strings.Repeat("\xff\xfe", 1<<17)
	parts := slices.Repeat([]string{block}, 12)
	checkText(t, parts...)
	checkText(t, append(parts, "\x07")...)
	odd := slices.Repeat([]string{block[1:]}, 9)
	checkText(t, odd...)
	checkText(t, slices.Repeat([]string{"\x01"}, 200001)...)
}

func TestCovers(t *testing.T) {
	for total := -2; total < 90; total++ {
		for off := -3; off < 93; off++ {
			for cover := -2; cover < 19; cover++ {
				checkCovered(t, total, off, cover)
			}
		}
	}
	for _, total := range edges() {
		for _, off := range edges() {
			for cover := -1; cover < 17; cover++ {
				checkCovered(t, total, off, cover)
			}
			for _, cover := range edges() {
				checkCovered(t, total, off, cover)
			}
		}
	}
	r := rand.New(rand.NewSource(2))
	for range 20000 {
		total := int(r.Uint64() >> r.Intn(64))
		checkCovered(t, total, total-r.Intn(80), r.Intn(18))
		checkCovered(t, total, int(r.Uint64()>>r.Intn(64)), r.Intn(18))
	}
}

// P0.3: the list is not changed, its spare room neither.
func TestListStays(t *testing.T) {
	list := texts()[:60]
	kept := slices.Clone(list)
	for n := range len(list) {
		Of(list[:n]...)
		Fits(Of(list[:n]...), list[:n]...)
		if !slices.Equal(list, kept) {
			t.Fatalf("P0.3: a list of %d parts is changed", n)
		}
	}
}

// P0.5: what a call answers hangs on its arguments alone, not on the calls before it.
func TestAgain(t *testing.T) {
	list := texts()
	first := make([]int, len(list))
	for i, s := range list {
		first[i] = Of(s)
		Covered(i, i/2, i%17)
	}
	for i := len(list) - 1; i >= 0; i-- {
		if again := Of(list[i]); again != first[i] || !Fits(again, list[i]) {
			t.Fatalf("P0.5: Of(%s): first %d, then %d", short(list[i]), first[i], again)
		}
	}
}
