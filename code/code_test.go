package code

import (
	"math"
	"math/big"
	"math/rand"
	"regexp"
	"strings"
	"testing"
	"unicode/utf8"
)

const none = math.MaxUint32 // no text names this code

func TestServiceOfSigns(t *testing.T) {
	for _, x := range []struct {
		s    string
		want uint32
	}{
		{"SC:a", 0x61202020}, {"SC:ab", 0x61622020}, {"SC:abc", 0x61626320}, {"SC:abcd", 0x61626364},
		{"SC:AZ", 0x415a2020}, {"SC:az", 0x617a2020}, {"SC:09", 0x30392020}, {"SC:0", 0x30202020},
		{"SC:-_+.", 0x2d5f2b2e}, {"SC:*/?@", 0x2a2f3f40}, {"SC:@zZ9", 0x407a5a39},
		{"SC:SC", 0x53432020}, {"SC:x1", 0x78312020}, {"SC:zzzz", 0x7a7a7a7a},
	} {
		if got, ok := Service(x.s); got != x.want || !ok {
			t.Errorf("P6.1: Service %q: %x, %v, not %x", x.s, got, ok, x.want)
		}
	}
}

func TestServiceOfDigits(t *testing.T) {
	for _, x := range []struct {
		s    string
		want uint32
	}{
		{"SC=0", 0}, {"SC=1", 1}, {"SC=9", 9}, {"SC=10", 10}, {"SC=1234567890", 1234567890},
		{"SC=999999999", 999999999}, {"SC=1000000000", 1000000000}, {"SC=2147483648", 1 << 31},
		{"SC=4294967293", none - 2}, {"SC=4294967294", none - 1},
		{"SC=x0", 0}, {"SC=X0", 0}, {"SC=x00", 0}, {"SC=x00000000", 0}, {"SC=x9", 9}, {"SC=xa", 10}, {"SC=xf", 15}, {"SC=xA", 10}, {"SC=xF", 15},
		{"SC=X10", 16}, {"SC=xAbCdEf", 0xabcdef}, {"SC=X12345678", 0x12345678}, {"SC=x90abcdef", 0x90abcdef},
		{"SC=x0000000f", 15}, {"SC=x80000000", 1 << 31}, {"SC=xfffffffe", none - 1}, {"SC=XFFFFFFFE", none - 1}, {"SC=xfffffff", 0xfffffff},
	} {
		if got, ok := Service(x.s); got != x.want || !ok {
			t.Errorf("P6.1: Service %q: %d, %v, not %d", x.s, got, ok, x.want)
		}
	}
}

func TestServiceOfOtherTexts(t *testing.T) {
	for _, s := range []string{
		"", "S", "SC", "SC:", "SC=", "SC=x", "SC=X", ":", "=", "x", "a", "5", "C:a", "C=5", "SCa", "SC5", "SC;a", "SC a", "SC x5",
		"sc:a", "Sc:a", "sC:a", "sc=5", " SC:a", " SC=5", "SC :a", "SC =5", "\x00SC:a", "SC:SC:a", "SC=SC=5", "SC=SC:a",
		"SC:abcde", "SC:a ", "SC: ", "SC: a", "SC:a b", "SC:a   ", "SC:    ", "SC:ab\n", "SC:a\x00", "SC:\x00", "SC:a\x7f", "SC:,", "SC:a,b",
		"SC:\x80", "SC:\xff", "SC:a\xff", "SC:\xffa", "SC:\xff\xff\xff\xff", "SC:é", "SC:aé", "SC:ü1", "SC:\u212a", "SC:\uff11", "SC:\u0661", "SC:\ufffd", "SC:\U00010041", "SC:\xc1\x81",
		"SC=00", "SC=01", "SC=05", "SC=0000000000", "SC=0000000005", "SC=04294967294",
		"SC=4294967295", "SC=4294967296", "SC=4294967300", "SC=9999999999", "SC=10000000000", "SC=12345678901", "SC=18446744073709551616", "SC=18446744073709551621",
		"SC=-1", "SC=-0", "SC=+1", "SC= 1", "SC=1 ", "SC=1_0", "SC=1.0", "SC=1e3", "SC=a", "SC=1a", "SC=ff", "SC=5x", "SC=\xb9", "SC=\u0661", "SC=\uff11", "SC=5\x00", "SC=5\xff",
		"SC=xffffffff", "SC=Xffffffff", "SC=XFFFFFFFF", "SC=x000000001", "SC=x100000000", "SC=xg", "SC=xG", "SC=x@", "SC=x`", "SC=x/", "SC=x:", "SC=xfg", "SC=xgf",
		"SC=x+1", "SC=x-1", "SC=x 1", "SC=x1 ", "SC=x_1", "SC=x1_0", "SC=xx1", "SC=xX1", "SC=0x1", "SC=00x1", "SC=x0x1", "SC=x\xff", "SC=x\uff21", "SC=b1", "SC=o7",
	} {
		if got, ok := Service(s); got != 0 || ok {
			t.Errorf("P6.1: Service %q: %d, %v", s, got, ok)
		}
	}
}

func TestServiceOfEachByte(t *testing.T) {
	const signs = "ABCDEFGHIJKLMNOPQRSTUVWXYZabcdefghijklmnopqrstuvwxyz0123456789-_+.*/?@"
	const hex = "0123456789abcdef"
	for i := range 256 {
		sign := string([]byte{byte(i)})
		c, ok := Service("SC:a" + sign + "b")
		if want := strings.Contains(signs, sign); ok != want || want && c != 0x61006220|uint32(i)<<16 || !want && c != 0 {
			t.Errorf("P6.1: Service with byte %x as a sign: %x, %v", i, c, ok)
		}
		c, ok = Service("SC=1" + sign + "2")
		if want := i >= '0' && i <= '9'; ok != want || want && c != 102+10*uint32(i-'0') || !want && c != 0 {
			t.Errorf("P6.1: Service with byte %x as a digit: %d, %v", i, c, ok)
		}
		at := strings.Index(hex, strings.ToLower(sign))
		c, ok = Service("SC=x1" + sign + "2")
		if ok != (at >= 0) || at >= 0 && c != 0x102|uint32(at)<<4 || at < 0 && c != 0 {
			t.Errorf("P6.1: Service with byte %x as a digit base 16: %x, %v", i, c, ok)
		}
	}
}

func TestServiceOfEachRune(t *testing.T) {
	// Runes whose lowest bits are those of a sign or of a digit must not pass for it.
	for r := rune(0x80); r <= utf8.MaxRune; r++ {
		for _, ahead := range []string{"SC:", "SC=", "SC=x"} {
			if got, ok := Service(ahead + string(r)); got != 0 || ok {
				t.Fatalf("P6.1: Service %q: %d, %v", ahead+string(r), got, ok)
			}
		}
	}
}

var (
	signForm = regexp.MustCompile(`\ASC:([-A-Za-z0-9_+.*/?@]{1,4})\z`)
	tenForm  = regexp.MustCompile(`\ASC=(0|[1-9][0-9]{0,9})\z`)
	hexForm  = regexp.MustCompile(`\ASC=[xX]([0-9a-fA-F]{1,8})\z`)
)

// wantService knows the forms as patterns and reads numbers of any length.
func wantService(s string) (uint32, bool) {
	n := new(big.Int)
	switch {
	case signForm.MatchString(s):
		n.SetBytes([]byte((signForm.FindStringSubmatch(s)[1] + "   ")[:4]))
	case tenForm.MatchString(s):
		n.SetString(tenForm.FindStringSubmatch(s)[1], 10)
	case hexForm.MatchString(s):
		n.SetString(hexForm.FindStringSubmatch(s)[1], 16)
	default:
		return 0, false
	}
	if n.Cmp(big.NewInt(none)) >= 0 {
		return 0, false
	}
	return uint32(n.Uint64()), true
}

func TestServiceOfShortTexts(t *testing.T) {
	letters := []string{"S", "C", ":", "=", "x", "X", "0", "9", "f", "g", "+", " ", "\xff"}
	fine := 0
	var texts func(s string, more int)
	texts = func(s string, more int) {
		got, ok := Service(s)
		if want, wantOK := wantService(s); got != want || ok != wantOK {
			t.Errorf("P6.1: Service %q: %d, %v, not %d, %v", s, got, ok, want, wantOK)
		}
		if ok {
			fine++
		}
		if more > 0 {
			for _, l := range letters {
				texts(s+l, more-1)
			}
		}
	}
	texts("", 4)
	texts("SC:", 5)
	texts("SC=", 5)
	texts("SC=429496729", 2)
	texts("SC=xfffffff", 2)
	if fine < 1000 {
		t.Errorf("only %d texts name a code", fine)
	}
}

func TestServiceThrown(t *testing.T) {
	r := rand.New(rand.NewSource(1))
	heads := []string{"SC:", "SC=", "SC=x", "SC=X", "SC=4", "SC=429496", "SC=xffff"}
	letters := []string{"0123456789", "0123456789abcdefABCDEF", "ghzGHZ-_+.*/?@AB09", "\x00 ,;~é\xff19aZ"}
	fine := 0
	for range 100000 {
		set := letters[r.Intn(len(letters))]
		b := []byte(heads[r.Intn(len(heads))])
		for range r.Intn(12) {
			b = append(b, set[r.Intn(len(set))])
		}
		got, ok := Service(string(b))
		if want, wantOK := wantService(string(b)); got != want || ok != wantOK {
			t.Fatalf("P6.1: Service %q: %d, %v, not %d, %v", b, got, ok, want, wantOK)
		}
		if ok {
			fine++
		}
	}
	if fine < 10000 {
		t.Errorf("only %d thrown texts name a code", fine)
	}
}

func TestText(t *testing.T) {
	for _, x := range []struct {
		c    uint32
		want string
	}{
		{0x61626364, "SC:abcd"}, {0x61626320, "SC:abc"}, {0x61622020, "SC:ab"}, {0x61202020, "SC:a"},
		{0x2d5f2b2e, "SC:-_+."}, {0x2a2f3f40, "SC:*/?@"}, {0x30202020, "SC:0"}, {0x415a3039, "SC:AZ09"},
		{0x20202020, "SC=538976288"}, {0x20616263, "SC=543253091"}, {0x61206263, "SC=1629512291"}, {0x61206220, "SC=1629512224"},
		{0x61202062, "SC=1629495394"}, {0x20202061, "SC=538976353"}, {0x61620020, "SC=1633812512"}, {0x61000000, "SC=1627389952"},
		{0x612c2020, "SC=1630281760"}, {0x6162e9ff, "SC=1633872383"}, {0x61c3a920, "SC=1640212768"}, {0xc3a9c3a9, "SC=3282682793"},
		{0, "SC=0"}, {1, "SC=1"}, {10, "SC=10"}, {1 << 31, "SC=2147483648"}, {none - 1, "SC=4294967294"}, {none, "SC=4294967295"},
	} {
		if got := Text(x.c); got != x.want {
			t.Errorf("P6.1: Text %x: %q, not %q", x.c, got, x.want)
		}
	}
}

// wantText knows the form as a pattern of what stands behind `SC:`.
func wantText(c uint32) string {
	b := string([]byte{byte(c >> 24), byte(c >> 16), byte(c >> 8), byte(c)})
	for size := 4; size > 0; size-- {
		if signForm.MatchString("SC:"+b[:size]) && b[size:] == "    "[size:] {
			return "SC:" + b[:size]
		}
	}
	return "SC=" + new(big.Int).SetUint64(uint64(c)).String()
}

func TestTextOfEachFourBytes(t *testing.T) {
	telling := []byte{0, 0x1f, ' ', ',', '-', '.', '0', '9', ':', '@', 'A', '[', 'z', '{', 0x7f, 0x80, 0xa9, 0xc3, 0xff}
	for _, a := range telling {
		for _, b := range telling {
			for _, c := range telling {
				for _, d := range telling {
					checkText(t, uint32(a)<<24|uint32(b)<<16|uint32(c)<<8|uint32(d))
				}
			}
		}
	}
	for i := range uint32(256) {
		for _, c := range []uint32{i<<24 | 0x626364, 0x61006364 | i<<16, 0x61620064 | i<<8, 0x61626300 | i, i<<24 | 0x202020, 0x61002020 | i<<16, 0x61620020 | i<<8} {
			checkText(t, c)
		}
	}
}

func TestTextThrown(t *testing.T) {
	r := rand.New(rand.NewSource(2))
	for range 100000 {
		checkText(t, r.Uint32()>>r.Intn(32))
	}
}

// checkText holds Text of c against the reckoning, and Service of it against c.
func checkText(t *testing.T, c uint32) {
	t.Helper()
	s := Text(c)
	if want := wantText(c); s != want {
		t.Errorf("P6.1: Text %x: %q, not %q", c, s, want)
	}
	if got, ok := Service(s); ok != (c != none) || ok && got != c || !ok && got != 0 {
		t.Errorf("P6.1: Service %q: %x, %v, and it is the Text of %x", s, got, ok, c)
	}
}

func TestReason(t *testing.T) {
	for _, x := range []struct {
		s    string
		most int
		want string
	}{
		{"", 0, ""}, {"", 5, ""}, {"", -5, ""}, {"", math.MaxInt, ""},
		{"abc", 3, "abc"}, {"abc", 4, "abc"}, {"abc", 2, "ab"}, {"abc", 1, "a"}, {"abc", 0, ""}, {"abc", -1, ""},
		{"abc", math.MinInt, ""}, {"abc", math.MaxInt, "abc"}, {"abc", 1 << 32, "abc"}, {"abc", -1 << 32, ""}, {"abc", 1<<32 + 1, "abc"},
		{"äöü", 2, "äö"}, {"世界", 1, "世"}, {"\U0001f40e!", 1, "\U0001f40e"}, {"\U0001f40e!", 2, "\U0001f40e!"}, {"e\u0301x", 2, "e\u0301"},
		{"a\x00b\x1f\x7f\tc", 9, "a b   c"}, {"\r\n", 9, "  "}, {" ~", 9, " ~"}, {"\x1f\x20\x21", 9, "  !"}, {"\x7e\x7f\u0080", 9, "~ \u0080"},
		{"\u0080\u0085\u009f\u00a0\u00ad\u200b\u2028\u202e\ufeff", 9, "\u0080\u0085\u009f\u00a0\u00ad\u200b\u2028\u202e\ufeff"},
		{"a\xffb", 9, "a\ufffdb"}, {"a\xffb", 2, "a\ufffd"}, {"\xe4\xb8", 9, "\ufffd\ufffd"}, {"\xe4\xb8", 1, "\ufffd"}, {"\xe4\xb8x", 2, "\ufffd\ufffd"},
		{"\ufffd", 1, "\ufffd"}, {"\xed\xa0\x80", 9, "\ufffd\ufffd\ufffd"}, {"\xc0\x80", 9, "\ufffd\ufffd"}, {"\xf4\x90\x80\x80", 9, "\ufffd\ufffd\ufffd\ufffd"}, {"\x80", 9, "\ufffd"},
		{"\x00\x00\x00", 2, "  "}, {"\x00\xff", 1, " "},
	} {
		if got := Reason(x.s, x.most); got != x.want {
			t.Errorf("P6.2: Reason %q, %d: %q, not %q", x.s, x.most, got, x.want)
		}
	}
}

func TestReasonOfEachRune(t *testing.T) {
	for r := range rune(utf8.MaxRune + 1) {
		if !utf8.ValidRune(r) {
			continue
		}
		want := string(r)
		if r <= 0x1f || r == 0x7f {
			want = " "
		}
		if got := Reason(string(r), 1); got != want {
			t.Fatalf("P6.2: Reason of %U: %q", r, got)
		}
	}
}

func TestRunes(t *testing.T) {
	for _, x := range []struct {
		s                       string
		letters, digits, others int
	}{
		{"", 0, 0, 0}, {"a", 1, 0, 0}, {"Z", 1, 0, 0}, {"5", 0, 1, 0}, {" ", 0, 0, 1},
		{"AZaz", 4, 0, 0}, {"09", 0, 2, 0}, {"@[`{/:", 0, 0, 6}, {"\x00\x7f\n", 0, 0, 3}, {"-_+.*/?@", 0, 0, 8},
		{"aZ09 é\xff", 2, 2, 3}, {"世a", 1, 0, 1}, {"\xe4\xb8", 0, 0, 2}, {"\xe4\xb8a", 1, 0, 2}, {"\ufffd", 0, 0, 1},
		{"\u0661\uff11\u00b2", 0, 0, 3}, {"\u212a\uff21\u00e9", 0, 0, 3}, {"e\u0301", 1, 0, 1}, {"\U0001f40e7", 0, 1, 1}, {"\U00010041\u0141", 0, 0, 2},
	} {
		if a, b, c := Runes(x.s); a != x.letters || b != x.digits || c != x.others {
			t.Errorf("P6.2: Runes %q: %d, %d, %d", x.s, a, b, c)
		}
	}
}

func TestRunesOfEachRune(t *testing.T) {
	for r := range rune(utf8.MaxRune + 1) {
		letters, digits, others := 0, 0, 1
		switch {
		case 'a' <= r && r <= 'z', 'A' <= r && r <= 'Z':
			letters, others = 1, 0
		case '0' <= r && r <= '9':
			digits, others = 1, 0
		}
		if a, b, c := Runes(string(r)); a != letters || b != digits || c != others {
			t.Fatalf("P6.2: Runes of %U: %d, %d, %d", r, a, b, c)
		}
	}
}

// wantRunes takes a text's runes one by one from its front; a byte that begins none is U+FFFD.
func wantRunes(s string) []rune {
	var rs []rune
	for s != "" {
		r, size := utf8.DecodeRuneInString(s)
		rs, s = append(rs, r), s[size:]
	}
	return rs
}

func TestReasonAndRunesThrown(t *testing.T) {
	r := rand.New(rand.NewSource(3))
	pieces := []string{"a", "Z", "0", "9", " ", "~", "\x00", "\x1f", "\x7f", "\n", "é", "世", "\U0001f40e", "\u0085", "\ufffd", "\x80", "\xbf", "\xc0", "\xc3", "\xe4", "\xb8", "\x96", "\xed", "\xa0", "\xf0", "\xf4", "\xff"}
	for range 20000 {
		s := ""
		for range r.Intn(20) {
			s += pieces[r.Intn(len(pieces))]
		}
		rs := wantRunes(s)
		if a, b, c := Runes(s); a+b+c != len(rs) {
			t.Fatalf("P6.2: Runes %q: %d, %d, %d", s, a, b, c)
		}
		for most := -1; most <= len(rs)+1; most++ {
			want := ""
			for _, x := range rs[:max(0, min(most, len(rs)))] {
				if x < ' ' || x == '\x7f' {
					x = ' '
				}
				want += string(x)
			}
			if got := Reason(s, most); got != want {
				t.Fatalf("P6.2: Reason %q, %d: %q, not %q", s, most, got, want)
			}
		}
	}
}

func TestAgain(t *testing.T) {
	c, ok := Service("SC:ab")
	s, why := Text(7), Reason("a\x00b", 3)
	Service("SC=x")
	Text(none)
	Reason("\xff", math.MaxInt)
	Runes("aB3")
	if again, fine := Service("SC:ab"); again != c || fine != ok {
		t.Errorf("P0.5: Service %d, %v, then %d, %v", c, ok, again, fine)
	}
	if Text(7) != s || Reason("a\x00b", 3) != why {
		t.Errorf("P0.5: %q and %q, then %q and %q", s, why, Text(7), Reason("a\x00b", 3))
	}
}

func TestLong(t *testing.T) {
	const many = 1 << 22
	for _, piece := range []string{"a", "0", "\x00", "\xff", "世"} {
		s := strings.Repeat(piece, many)
		for _, ahead := range []string{"", "SC:", "SC=", "SC=x"} {
			if got, ok := Service(ahead + s); got != 0 || ok {
				t.Errorf("P6.1: Service %q and %d of %q: %d, %v", ahead, many, piece, got, ok)
			}
		}
		if a, b, c := Runes(s); a+b+c != many {
			t.Errorf("P6.2: Runes of %d of %q: %d, %d, %d", many, piece, a, b, c)
		}
		one := Reason(piece, 1)
		if got := Reason(s, many-1); got != strings.Repeat(one, many-1) {
			t.Errorf("P6.2: Reason of %d of %q has %d bytes", many, piece, len(got))
		}
		if got := Reason(s, math.MaxInt); got != strings.Repeat(one, many) {
			t.Errorf("P6.2: Reason of all %d of %q has %d bytes", many, piece, len(got))
		}
	}
}
