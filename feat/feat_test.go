package feat

import (
	"encoding/hex"
	"math"
	"math/big"
	"math/rand"
	"slices"
	"strings"
	"testing"

	"muleteer/api"
	"muleteer/opt"
)

// values are those that a feature's list may have.
var values = map[int]string{
	api.FCcid:   "\x02\x03",
	api.FVector: "\x00\x01",
	api.FCover:  "\x00\x01\x02\x03\x04\x05\x06\x07\x08\x09\x0a\x0b\x0c\x0d\x0e\x0f",
}

var lists = []int{api.FCcid, api.FVector, api.FCover}

// far are numbers far from any feature's, and such as pass for one where they are cut to fewer bits.
var far = []int{math.MinInt, math.MinInt + 1, math.MinInt + 3, math.MinInt + 6, math.MinInt + 8, math.MinInt32, -1 << 32, 1<<31 - 1, 1 << 31, 1 << 32, 1<<32 + 1, 1<<32 + 3, 1<<32 + 6, 1<<32 + 8, -1<<32 + 1, -1<<32 + 8, 1 << 62, 1<<62 + 1, math.MaxInt - 1, math.MaxInt}

// unknown are numbers of no feature, near and far.
func unknown() []int {
	fs := slices.Clone(far)
	for f := -600; f < 600; f++ {
		if f != 1 && f != 3 && f != 6 && f != 8 {
			fs = append(fs, f)
		}
	}
	return fs
}

func unhex(t *testing.T, s string) string {
	t.Helper()
	b, err := hex.DecodeString(strings.ReplaceAll(s, " ", ""))
	if err != nil {
		t.Fatal(err)
	}
	return string(b)
}

func byteText(b int) string { return string([]byte{byte(b)}) }

// number is v as a whole number, however many bytes it has.
func number(v string) *big.Int { return new(big.Int).SetBytes([]byte(v)) }

// wantMay sorts a list, so that what is there twice stands beside itself.
func wantMay(f int, v string) bool {
	if f == api.FWindow {
		n := number(v)
		return len(v) == 6 && n.Cmp(big.NewInt(31)) > 0 && n.Cmp(big.NewInt(1001)) < 0
	}
	b := []byte(v)
	slices.Sort(b)
	for i, x := range b {
		if strings.Count(values[f], byteText(int(x))) == 0 || i > 0 && x == b[i-1] {
			return false
		}
	}
	return len(b) > 0
}

// wantChoose asks of each value that may be where it stands with the server.
func wantChoose(f int, server, client string) (string, bool) {
	if f == api.FWindow {
		if wantMay(f, client) {
			return client, true
		}
		return "", false
	}
	if !wantMay(f, server) || !wantMay(f, client) {
		return "", false
	}
	best, at := "", len(server)
	for _, b := range []byte(values[f]) {
		place := strings.IndexByte(server, b)
		if place >= 0 && place < at && strings.IndexByte(client, b) >= 0 {
			best, at = string([]byte{b}), place
		}
	}
	return best, best != ""
}

func holdMay(t *testing.T, f int, v string) {
	t.Helper()
	if want := wantMay(f, v); May(f, v) != want {
		t.Fatalf("P18.1: May of %d, %x: not %v", f, v, want)
	}
}

func holdChoose(t *testing.T, f int, server, client string) {
	t.Helper()
	got, ok := Choose(f, server, client)
	if want, wantOk := wantChoose(f, server, client); got != want || ok != wantOk {
		t.Fatalf("P18.1: Choose of %d, %x, %x: %x, %v, not %x, %v", f, server, client, got, ok, want, wantOk)
	}
}

// texts are all texts of at most so many of the letters.
func texts(letters string, most int) []string {
	all := []string{""}
	for from := 0; most > 0; most-- {
		to := len(all)
		for _, text := range all[from:to] {
			for i := range len(letters) {
				all = append(all, text+letters[i:i+1])
			}
		}
		from = to
	}
	return all
}

// shuffled is so many of the letters, in any order.
func shuffled(r *rand.Rand, letters string, n int) string {
	b := []byte(letters)
	r.Shuffle(len(b), func(i, j int) { b[i], b[j] = b[j], b[i] })
	return string(b[:n])
}

func TestKnownListDefault(t *testing.T) {
	for _, x := range []struct {
		f    int
		list bool
		want string
	}{
		{1, true, "02"}, {6, true, "00"}, {8, true, "00"}, {3, false, "000000000064"},
	} {
		if !Known(x.f) || List(x.f) != x.list {
			t.Errorf("P18.1: the feature %d: Known %v, List %v", x.f, Known(x.f), List(x.f))
		}
		d := Default(x.f)
		if d != unhex(t, x.want) {
			t.Errorf("P18.1: Default of %d: %x", x.f, d)
		}
		if v, ok := Choose(x.f, d, d); !May(x.f, d) || v != d || !ok {
			t.Errorf("P18.1: the Default of %d may not be, or is not chosen: %x, %v", x.f, v, ok)
		}
	}
}

func TestUnknown(t *testing.T) {
	vs := append(texts("\x00\x01\x02\x03", 2), values[api.FCover], opt.Bytes(100, 6), opt.Bytes(32, 6), strings.Repeat("\x00", 6))
	for _, f := range unknown() {
		if Known(f) || List(f) || Default(f) != "" {
			t.Errorf("P18.1: the feature %d: Known %v, List %v, Default %x", f, Known(f), List(f), Default(f))
		}
		for _, v := range vs {
			if got, ok := Choose(f, v, v); May(f, v) || got != "" || ok {
				t.Errorf("P18.1: the feature %d, %x: May %v, Choose %x, %v", f, v, May(f, v), got, ok)
			}
		}
	}
}

func TestMay(t *testing.T) {
	for _, x := range []struct {
		name string
		f    int
		v    string
		want bool
	}{
		{"nothing", api.FCcid, "", false},
		{"the least", api.FCcid, "02", true},
		{"the greatest", api.FCcid, "03", true},
		{"both", api.FCcid, "0203", true},
		{"both, turned about", api.FCcid, "0302", true},
		{"below", api.FCcid, "01", false},
		{"beyond", api.FCcid, "04", false},
		{"a sign", api.FCcid, "32", false},
		{"a byte with a higher bit", api.FCcid, "82", false},
		{"beyond, behind", api.FCcid, "0204", false},
		{"below, ahead", api.FCcid, "0102", false},
		{"twice", api.FCcid, "0202", false},
		{"twice, parted", api.FCcid, "020302", false},
		{"twice, behind", api.FCcid, "020303", false},
		{"four", api.FCcid, "02030203", false},
		{"five", api.FCcid, "0203020302", false},
		{"nothing", api.FVector, "", false},
		{"the least", api.FVector, "00", true},
		{"the greatest", api.FVector, "01", true},
		{"both", api.FVector, "0001", true},
		{"both, turned about", api.FVector, "0100", true},
		{"beyond", api.FVector, "02", false},
		{"far beyond", api.FVector, "ff", false},
		{"beyond, behind", api.FVector, "000102", false},
		{"twice", api.FVector, "0000", false},
		{"twice, parted", api.FVector, "010001", false},
		{"nothing", api.FCover, "", false},
		{"the least", api.FCover, "00", true},
		{"the greatest", api.FCover, "0f", true},
		{"one in the midst", api.FCover, "07", true},
		{"beyond", api.FCover, "10", false},
		{"some", api.FCover, "0f00 0702", true},
		{"five", api.FCover, "0504030201", true},
		{"all", api.FCover, "000102030405060708090a0b0c0d0e0f", true},
		{"all, turned about", api.FCover, "0f0e0d0c0b0a09080706050403020100", true},
		{"all but one, and one beyond", api.FCover, "000102030405060708090a0b0c0d0e10", false},
		{"all but one, and one twice", api.FCover, "000102030405060708090a0b0c0d0e00", false},
		{"all, and one beyond", api.FCover, "000102030405060708090a0b0c0d0e0f10", false},
		{"all, and one twice", api.FCover, "000102030405060708090a0b0c0d0e0f0f", false},
		{"a value of the window", api.FCover, "000000000064", false},
		{"nothing", api.FWindow, "", false},
		{"the least", api.FWindow, "000000000020", true},
		{"below", api.FWindow, "00000000001f", false},
		{"0", api.FWindow, "000000000000", false},
		{"the greatest", api.FWindow, "0000000003e8", true},
		{"beyond", api.FWindow, "0000000003e9", false},
		{"1024", api.FWindow, "000000000400", false},
		{"the lowest byte first", api.FWindow, "640000000000", false},
		{"a higher byte", api.FWindow, "000100000064", false},
		{"the highest bit", api.FWindow, "800000000064", false},
		{"all bits", api.FWindow, "ffffffffffff", false},
		{"a byte", api.FWindow, "64", false},
		{"five bytes", api.FWindow, "0000000064", false},
		{"seven bytes", api.FWindow, "00000000000064", false},
		{"eight bytes", api.FWindow, "0000000000000064", false},
		{"nine bytes", api.FWindow, "000000000000000064", false},
		{"two windows", api.FWindow, "000000000064000000000064", false},
		{"signs", api.FWindow, "313030", false},
	} {
		if v := unhex(t, x.v); May(x.f, v) != x.want {
			t.Errorf("P18.1, %s: May of %d, %s: not %v", x.name, x.f, x.v, x.want)
		}
	}
}

func TestMayOfEachByte(t *testing.T) {
	for _, f := range lists {
		for b := range 256 {
			holdMay(t, f, byteText(b))
			for c := range 256 {
				holdMay(t, f, byteText(b)+byteText(c))
			}
		}
	}
}

func TestMayOfShortLists(t *testing.T) {
	for _, f := range lists {
		for _, v := range texts("\x00\x01\x02\x03\x04\x0f\x10", 5) {
			holdMay(t, f, v)
		}
	}
}

// One byte at each place of a list that may be is put in another's stead, so that it is beyond or there twice.
func TestMayOfOneBadByte(t *testing.T) {
	r := rand.New(rand.NewSource(1))
	for n := range 17 {
		v := shuffled(r, values[api.FCover], n)
		holdMay(t, api.FCover, v)
		for at := range n {
			for b := range 256 {
				holdMay(t, api.FCover, v[:at]+byteText(b)+v[at+1:])
			}
		}
		for b := range 256 {
			holdMay(t, api.FCover, v+byteText(b))
			holdMay(t, api.FCover, byteText(b)+v)
		}
	}
}

func TestMayOfWindows(t *testing.T) {
	for n := range 70000 {
		v := "\x00\x00\x00" + byteText(n>>16) + byteText(n>>8) + byteText(n)
		holdMay(t, api.FWindow, v)
	}
	for _, low := range []int{0, 31, 32, 100, 1000, 1001} {
		for size := 2; size <= 9; size++ {
			v := strings.Repeat("\x00", size-2) + byteText(low>>8) + byteText(low)
			holdMay(t, api.FWindow, v)
			for bit := range 8 * size {
				b := []byte(v)
				b[bit/8] ^= 1 << (bit % 8)
				holdMay(t, api.FWindow, string(b))
			}
		}
	}
}

func TestMayThrown(t *testing.T) {
	r := rand.New(rand.NewSource(2))
	fine := 0
	for range 20000 {
		f := []int{api.FCcid, api.FVector, api.FCover, api.FWindow}[r.Intn(4)]
		b := make([]byte, r.Intn(10))
		for i := range b {
			b[i] = byte(r.Intn(1 << r.Intn(9)))
		}
		v := string(b)
		if f == api.FWindow {
			v = opt.Bytes(r.Uint64()>>r.Intn(64), 6)
		}
		holdMay(t, f, v)
		if May(f, v) {
			fine++
		}
	}
	if fine < 1000 {
		t.Errorf("only %d thrown texts may be", fine)
	}
}

func TestChoose(t *testing.T) {
	for _, x := range []struct {
		name           string
		f              int
		server, client string
		want           string
	}{
		{"alike", api.FCcid, "02", "02", "02"},
		{"unlike", api.FCcid, "02", "03", ""},
		{"the server's first", api.FCcid, "0203", "0302", "02"},
		{"the server's first, turned about", api.FCcid, "0302", "0203", "03"},
		{"the client's only one", api.FCcid, "0203", "03", "03"},
		{"the server's only one", api.FCcid, "03", "0203", "03"},
		{"no server", api.FCcid, "", "02", ""},
		{"no client", api.FCcid, "02", "", ""},
		{"neither", api.FCcid, "", "", ""},
		{"the server's has one beyond", api.FCcid, "0204", "02", ""},
		{"the client's has one beyond", api.FCcid, "02", "0204", ""},
		{"the server's has one twice", api.FCcid, "0202", "02", ""},
		{"the client's has one twice", api.FCcid, "02", "0202", ""},
		{"both have the same that may not be", api.FCcid, "04", "04", ""},
		{"a vector", api.FVector, "0100", "0001", "01"},
		{"no vector", api.FVector, "0001", "0100", "00"},
		{"vectors unlike", api.FVector, "01", "00", ""},
		{"the server's vector of another feature", api.FVector, "0203", "01", ""},
		{"covers", api.FCover, "0f0a0500", "0102030405060a", "0a"},
		{"the last of both", api.FCover, "0102030f", "0405060f", "0f"},
		{"the value 0", api.FCover, "0500", "0100", "00"},
		{"covers unlike", api.FCover, "00010203", "04050607", ""},
		{"a cover beyond behind the choice", api.FCover, "0510", "05", ""},
		{"the client's cover beyond behind the choice", api.FCover, "05", "0510", ""},
		{"a window", api.FWindow, "000000000064", "000000000028", "000000000028"},
		{"a window that is greater than the server's", api.FWindow, "000000000028", "0000000003e8", "0000000003e8"},
		{"a window, no server", api.FWindow, "", "000000000020", "000000000020"},
		{"a window, a server that may not be", api.FWindow, "ff", "000000000020", "000000000020"},
		{"a window, a server of too much", api.FWindow, "0000000003e9", "000000000064", "000000000064"},
		{"no window", api.FWindow, "000000000064", "", ""},
		{"a window that may not be", api.FWindow, "000000000064", "00000000001f", ""},
		{"a window of too much", api.FWindow, "000000000064", "0000000003e9", ""},
		{"a window of too few bytes", api.FWindow, "000000000064", "0000000064", ""},
		{"a window of too many bytes", api.FWindow, "000000000064", "00000000000064", ""},
	} {
		got, ok := Choose(x.f, unhex(t, x.server), unhex(t, x.client))
		if got != unhex(t, x.want) || ok != (x.want != "") {
			t.Errorf("P18.1, %s: Choose of %d, %s, %s: %x, %v", x.name, x.f, x.server, x.client, got, ok)
		}
	}
}

func TestChooseOfShortLists(t *testing.T) {
	for _, f := range lists {
		all := texts("\x00\x01\x02\x03\x04\x10", 3)
		for _, server := range all {
			for _, client := range all {
				holdChoose(t, f, server, client)
			}
		}
	}
}

func TestChooseOfCovers(t *testing.T) {
	r := rand.New(rand.NewSource(3))
	chosen, none := 0, 0
	for range 50000 {
		server := shuffled(r, values[api.FCover], r.Intn(17))
		client := shuffled(r, values[api.FCover], r.Intn(17))
		if r.Intn(8) == 0 {
			server += byteText(r.Intn(18))
		}
		if r.Intn(8) == 0 {
			client += byteText(r.Intn(18))
		}
		holdChoose(t, api.FCover, server, client)
		if _, ok := Choose(api.FCover, server, client); ok {
			chosen++
		} else {
			none++
		}
	}
	if chosen < 10000 || none < 10000 {
		t.Errorf("of the thrown pairs %d have a choice, %d none", chosen, none)
	}
}

func TestChooseOfWindows(t *testing.T) {
	servers := []string{"", "\x00", "\x02\x03", opt.Bytes(31, 6), opt.Bytes(32, 6), opt.Bytes(1000, 6), opt.Bytes(1001, 6), opt.Bytes(100, 5), opt.Bytes(100, 7), strings.Repeat("x", 1000)}
	for n := range uint64(1100) {
		for size := 1; size <= 8; size++ {
			for _, server := range servers {
				holdChoose(t, api.FWindow, server, opt.Bytes(n, size))
			}
		}
	}
}

func TestNumber(t *testing.T) {
	for _, x := range []struct {
		v    string
		want uint64
	}{
		{"02", 2}, {"00", 0}, {"ff", 255}, {"0102", 258}, {"000000000064", 100}, {"0000000003e8", 1000},
		{"640000000000", 100 << 40}, {"ffffffffffff", 1<<48 - 1}, {"0102030405060708", 0x0102030405060708}, {"ffffffffffffffff", math.MaxUint64},
	} {
		if n, ok := Number(unhex(t, x.v)); n != x.want || !ok {
			t.Errorf("P18.1: Number %s: %d, %v", x.v, n, ok)
		}
	}
	for _, size := range []int{0, 9, 10, 16, 100, 70000} {
		for _, letter := range []string{"\x00", "\x01", "\xff"} {
			if n, ok := Number(strings.Repeat(letter, size)); n != 0 || ok {
				t.Errorf("P18.1: Number of %d bytes: %d, %v", size, n, ok)
			}
		}
	}
}

func TestNumberThrown(t *testing.T) {
	r := rand.New(rand.NewSource(4))
	for range 5000 {
		b := make([]byte, r.Intn(12))
		for i := range b {
			b[i] = byte(r.Intn(256))
		}
		v := string(b)
		n, ok := Number(v)
		wantOk := len(v) > 0 && len(v) < 9
		if ok != wantOk || ok && number(v).Cmp(new(big.Int).SetUint64(n)) != 0 || !ok && n != 0 {
			t.Fatalf("P18.1: Number %x: %d, %v", v, n, ok)
		}
	}
}

func TestLong(t *testing.T) {
	const many = 1 << 20
	for f := range 10 {
		for _, v := range []string{strings.Repeat("\x00", many), strings.Repeat("\x02\x03", many), strings.Repeat("\xff", many), strings.Repeat(values[api.FCover], many/16), strings.Repeat(opt.Bytes(100, 6), many/8)} {
			if got, ok := Choose(f, v, v); May(f, v) || got != "" || ok {
				t.Errorf("P18.1: the feature %d, %d bytes: May %v, Choose %d bytes, %v", f, len(v), May(f, v), len(got), ok)
			}
			if d := Default(f); f != api.FWindow {
				if got, ok := Choose(f, v, d); got != "" || ok {
					t.Errorf("P18.1: the feature %d, a server of %d bytes: %x, %v", f, len(v), got, ok)
				}
			} else if got, ok := Choose(f, v, d); got != d || !ok {
				t.Errorf("P18.1: a window, a server of %d bytes: %x, %v", len(v), got, ok)
			}
		}
	}
}

func TestAgain(t *testing.T) {
	first, _ := Choose(api.FCover, "\x05\x00", "\x00\x05")
	was := Default(api.FWindow)
	Choose(api.FCover, "\x05\x05", "\x05")
	Choose(api.FWindow, "", opt.Bytes(40, 6))
	May(api.FCover, "\x10")
	Number("123456789")
	if again, ok := Choose(api.FCover, "\x05\x00", "\x00\x05"); again != first || !ok {
		t.Errorf("P0.5: Choose %x, then %x, %v", first, again, ok)
	}
	if d := Default(api.FWindow); d != was || d != opt.Bytes(100, 6) {
		t.Errorf("P0.5: Default %x, then %x", was, d)
	}
}
