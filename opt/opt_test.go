package opt

import (
	"encoding/hex"
	"math"
	"math/big"
	"math/rand"
	"reflect"
	"strings"
	"testing"

	"muleteer/api"
)

func text(n int) string { return strings.Repeat("x", n) }

func unhex(t *testing.T, s string) string {
	t.Helper()
	b, err := hex.DecodeString(strings.ReplaceAll(s, " ", ""))
	if err != nil {
		t.Fatal(err)
	}
	return string(b)
}

func same(a, b []api.Opt) bool {
	return len(a) == 0 && len(b) == 0 || reflect.DeepEqual(a, b)
}

func TestMay(t *testing.T) {
	for _, typ := range []int{math.MinInt, math.MinInt32, -256, -224, -1, 0, 1, 2, 30, 31, 32, 33, 193, 254, 255, 256, 257, 288, 1 << 32, 1<<32 + 40, math.MaxInt} {
		for _, size := range []int{0, 1, 2, 252, 253, 254, 255, 256, 257, 512, 70000} {
			want := typ >= 0 && typ < 32 && size == 0 || typ >= 32 && typ <= 255 && size <= 253
			o := api.Opt{Type: typ, Data: text(size)}
			if May(o) != want {
				t.Errorf("P5.1: May of type %d with %d bytes: not %v", typ, size, want)
			}
			if (Put(o) != "") != want {
				t.Errorf("P5.1: Put of type %d with %d bytes: %x", typ, size, Put(o))
			}
		}
	}
}

func TestMayOfEachType(t *testing.T) {
	for typ := range 256 {
		if !May(api.Opt{Type: typ}) {
			t.Errorf("P5.1: May of type %d without data", typ)
		}
		if May(api.Opt{Type: typ, Data: "\x00"}) != (typ >= 32) {
			t.Errorf("P5.1: May of type %d with a byte", typ)
		}
	}
}

func TestPut(t *testing.T) {
	for _, x := range []struct {
		name string
		os   []api.Opt
		want string
	}{
		{"none", nil, ""},
		{"an empty list", []api.Opt{}, ""},
		{"one pad", []api.Opt{{}}, "00000000"},
		{"four pads", make([]api.Opt, 4), "00000000"},
		{"five pads", make([]api.Opt, 5), "00000000 00000000"},
		{"one without data", []api.Opt{{Type: 2}}, "02000000"},
		{"four without data", []api.Opt{{Type: 2}, {Type: 31}, {Type: 1}, {Type: 3}}, "021f0103"},
		{"the first with a length", []api.Opt{{Type: 32}}, "20020000"},
		{"a byte of data", []api.Opt{{Type: 255, Data: "\xff"}}, "ff03ff00"},
		{"two bytes of data", []api.Opt{{Type: 40, Data: "ab"}}, "28046162"},
		{"three bytes of data", []api.Opt{{Type: 40, Data: "abc"}}, "28056162 63000000"},
		{"in their order", []api.Opt{{Type: 40, Data: "b"}, {Type: 2}, {Type: 40, Data: "a"}, {}, {Type: 33}}, "28036202 28036100 21020000"},
		{"a mandatory with nothing behind it", []api.Opt{{Type: api.OMandatory}}, "01000000"},
		{"two mandatories", []api.Opt{{Type: 1}, {Type: 1}, {Type: 40}}, "01012802"},
		{"bytes of no rune", []api.Opt{{Type: 200, Data: "\x80\xfe"}}, "c80480fe"},
	} {
		if got := Put(x.os...); got != unhex(t, x.want) {
			t.Errorf("P5.1, %s: Put %x, not %s", x.name, got, x.want)
		}
	}
}

func TestPutLengths(t *testing.T) {
	for size := range 254 {
		data := text(size)
		want := "\x40" + string([]byte{byte(size + 2)}) + data
		for len(want)%4 != 0 {
			want += "\x00"
		}
		if got := Put(api.Opt{Type: 64, Data: data}); got != want {
			t.Errorf("P5.1: Put with %d bytes: %x", size, got)
		}
	}
}

func TestPutOfWhatMayNotBe(t *testing.T) {
	good := []api.Opt{{Type: 2}, {Type: 40, Data: "ab"}, {}}
	for _, bad := range []api.Opt{{Type: -1}, {Type: 256}, {Type: math.MinInt}, {Type: math.MaxInt}, {Type: 0, Data: "x"}, {Type: 31, Data: "x"}, {Type: 32, Data: text(254)}, {Type: 255, Data: text(1000)}} {
		for at := range len(good) + 1 {
			os := append(append(append([]api.Opt{}, good[:at]...), bad), good[at:]...)
			if got := Put(os...); got != "" {
				t.Errorf("P5.1: Put with type %d at %d: %x", bad.Type, at, got)
			}
		}
	}
}

func TestGet(t *testing.T) {
	for _, x := range []struct {
		name, b string
		want    []api.Opt
		e       api.Errno
	}{
		{"nothing", "", nil, api.OK},
		{"a pad", "00", nil, api.OK},
		{"pads", "0000000000", nil, api.OK},
		{"one", "02", []api.Opt{{Type: 2}}, api.OK},
		{"the last without a length", "1f", []api.Opt{{Type: 31}}, api.OK},
		{"the last without a length takes no data", "1f021f", []api.Opt{{Type: 31}, {Type: 2}, {Type: 31}}, api.OK},
		{"the first with a length", "2002", []api.Opt{{Type: 32}}, api.OK},
		{"data", "2804 6162", []api.Opt{{Type: 40, Data: "ab"}}, api.OK},
		{"data of pads", "2804 0000 02", []api.Opt{{Type: 40, Data: "\x00\x00"}, {Type: 2}}, api.OK},
		{"data of mandatories", "2804 0101", []api.Opt{{Type: 40, Data: "\x01\x01"}}, api.OK},
		{"pads about", "00 02 00 00 2803ff 00 ff02 00", []api.Opt{{Type: 2}, {Type: 40, Data: "\xff"}, {Type: 255}}, api.OK},
		{"twice the same", "2803 61 2803 61", []api.Opt{{Type: 40, Data: "a"}, {Type: 40, Data: "a"}}, api.OK},
		{"no length", "28", nil, api.ErrOpt},
		{"no length behind others", "02 2802 ff", nil, api.ErrOpt},
		{"length 0", "2800", nil, api.ErrOpt},
		{"length 0 with bytes behind", "2800 0202", nil, api.ErrOpt},
		{"length 1", "2801", nil, api.ErrOpt},
		{"length 1 with bytes behind", "2801 0202", nil, api.ErrOpt},
		{"a length beyond the end", "2803", nil, api.ErrOpt},
		{"a length one beyond the end", "2805 6162", nil, api.ErrOpt},
		{"a length beyond the end behind others", "02 02 2804 61", nil, api.ErrOpt},
		{"a length of 255 in little", "28ff 00", nil, api.ErrOpt},
		{"a mandatory alone", "01", nil, api.ErrOpt},
		{"a mandatory and pads", "01 00 00 00", nil, api.ErrOpt},
		{"a mandatory at the end", "02 2802 01", nil, api.ErrOpt},
		{"a mandatory with one behind it", "01 02", []api.Opt{{Type: 1}, {Type: 2}}, api.OK},
		{"a mandatory with a long one behind it", "01 2803 61", []api.Opt{{Type: 1}, {Type: 40, Data: "a"}}, api.OK},
		{"pads behind a mandatory", "01 00 00 2802", []api.Opt{{Type: 1}, {Type: 40}}, api.OK},
		{"two mandatories", "01 01 02", nil, api.ErrOpt},
		{"two mandatories, pads between", "01 00 01 02", nil, api.ErrOpt},
		{"three mandatories", "01 01 01 02", nil, api.ErrOpt},
		{"two mandatories behind others", "02 01 01 02", nil, api.ErrOpt},
		{"two mandatories, each with one behind it", "01 02 01 2802", []api.Opt{{Type: 1}, {Type: 2}, {Type: 1}, {Type: 40}}, api.OK},
		{"a mandatory ahead of one that is none", "01 2801", nil, api.ErrOpt},
	} {
		got, e := Get(unhex(t, x.b))
		if e != x.e || !same(got, x.want) {
			t.Errorf("P5.1, %s: Get %v, %d", x.name, got, e)
		}
		if e != api.OK && got != nil {
			t.Errorf("P5.1, %s: a list beside ErrOpt", x.name)
		}
	}
}

func TestGetLengths(t *testing.T) {
	for length := range 256 {
		b := "\x50" + string([]byte{byte(length)})
		if length < 2 {
			for _, behind := range []int{0, 1, 2, 300} {
				if got, e := Get(b + text(behind)); e != api.ErrOpt || got != nil {
					t.Errorf("P5.1: Get with length %d, %d bytes behind: %v, %d", length, behind, got, e)
				}
			}
			continue
		}
		want := []api.Opt{{Type: 80, Data: text(length - 2)}}
		if got, e := Get(b + text(length-2)); e != api.OK || !same(got, want) {
			t.Errorf("P5.1: Get with length %d: %v, %d", length, got, e)
		}
		if got, e := Get(b + text(length-2) + "\x02"); e != api.OK || !same(got, append(want, api.Opt{Type: 2})) {
			t.Errorf("P5.1: Get with length %d and one behind it: %v, %d", length, got, e)
		}
		if length > 2 {
			if got, e := Get(b + text(length-3)); e != api.ErrOpt || got != nil {
				t.Errorf("P5.1: Get with length %d, one byte too few: %v, %d", length, got, e)
			}
		}
	}
}

func TestGetOfEachByte(t *testing.T) {
	for typ := range 256 {
		b := string([]byte{byte(typ)})
		got, e := Get(b + "\x02")
		var want []api.Opt
		switch {
		case typ == 0:
			want = []api.Opt{{Type: 2}}
		case typ < 32:
			want = []api.Opt{{Type: typ}, {Type: 2}}
		default:
			want = []api.Opt{{Type: typ}}
		}
		if e != api.OK || !same(got, want) {
			t.Errorf("P5.1: Get %02x02: %v, %d", typ, got, e)
		}
	}
}

// wantGet cuts b into options first, and asks for the mandatories of the whole list then.
func wantGet(b string) ([]api.Opt, api.Errno) {
	var os []api.Opt
	for at := 0; at < len(b); {
		if b[at] < 32 {
			if b[at] != 0 {
				os = append(os, api.Opt{Type: int(b[at])})
			}
			at++
			continue
		}
		if at+1 == len(b) || b[at+1] < 2 || at+int(b[at+1]) > len(b) {
			return nil, api.ErrOpt
		}
		end := at + int(b[at+1])
		os = append(os, api.Opt{Type: int(b[at]), Data: b[at+2 : end]})
		at = end
	}
	for i, o := range os {
		if o.Type == 1 && (i+1 == len(os) || os[i+1].Type == 1) {
			return nil, api.ErrOpt
		}
	}
	return os, api.OK
}

func TestGetShortTexts(t *testing.T) {
	letters := "\x00\x01\x02\x03\x1f\x20\xff"
	var texts func(b string)
	texts = func(b string) {
		got, e := Get(b)
		if want, wantE := wantGet(b); e != wantE || !same(got, want) {
			t.Errorf("P5.1: Get %x: %v, %d", b, got, e)
		}
		if len(b) < 6 {
			for i := range len(letters) {
				texts(b + letters[i:i+1])
			}
		}
	}
	texts("")
}

func TestGetThrown(t *testing.T) {
	r := rand.New(rand.NewSource(5))
	fine := 0
	for range 20000 {
		b := make([]byte, r.Intn(40))
		for i := range b {
			b[i] = byte(r.Intn(256))
			if r.Intn(2) == 0 {
				b[i] = byte(r.Intn(6))
			}
		}
		got, e := Get(string(b))
		if want, wantE := wantGet(string(b)); e != wantE || !same(got, want) {
			t.Fatalf("P5.1: Get %x: %v, %d", b, got, e)
		}
		if e == api.OK {
			fine++
		}
	}
	if fine < 1000 {
		t.Errorf("only %d thrown texts are options", fine)
	}
}

func TestThereAndBack(t *testing.T) {
	r := rand.New(rand.NewSource(6))
	for range 5000 {
		var os []api.Opt
		for range r.Intn(8) {
			o := api.Opt{Type: 2 + r.Intn(254)}
			if o.Type >= 32 {
				o.Data = text(r.Intn(1 << r.Intn(8)))
			}
			if r.Intn(4) == 0 {
				os = append(os, api.Opt{Type: api.OMandatory})
			}
			os = append(os, o)
		}
		b := Put(os...)
		if len(b)%4 != 0 {
			t.Fatalf("P5.1: Put has %d bytes", len(b))
		}
		got, e := Get(b)
		if e != api.OK || !same(got, os) {
			t.Fatalf("P5.1: %v is %v, %d when it is back", os, got, e)
		}
	}
}

func TestFind(t *testing.T) {
	os := []api.Opt{{Type: 40, Data: "a"}, {Type: 41}, {Type: 40, Data: "b"}, {Type: 2}, {Type: 41, Data: "c"}, {Type: -7, Data: "d"}, {Type: 296, Data: "e"}, {}}
	for _, x := range []struct {
		t    int
		want string
		ok   bool
	}{
		{40, "a", true}, {41, "", true}, {2, "", true}, {-7, "d", true}, {296, "e", true}, {0, "", true},
		{42, "", false}, {1, "", false}, {-1, "", false}, {40 + 512, "", false}, {math.MaxInt, "", false}, {math.MinInt, "", false},
	} {
		if got, ok := Find(os, x.t); got != x.want || ok != x.ok {
			t.Errorf("P5.1: Find %d: %q, %v", x.t, got, ok)
		}
	}
	for _, none := range [][]api.Opt{nil, {}} {
		if got, ok := Find(none, 0); got != "" || ok {
			t.Errorf("P0.4: Find in none: %q, %v", got, ok)
		}
	}
}

func TestNumber(t *testing.T) {
	for _, x := range []struct {
		s    string
		want uint64
	}{
		{"00", 0}, {"05", 5}, {"ff", 255}, {"0102", 258}, {"0000", 0}, {"0005", 5}, {"010203", 66051},
		{"80000000", 1 << 31}, {"0000ffffffffffff", 1<<48 - 1}, {"8000000000000000", 1 << 63},
		{"ffffffffffffffff", math.MaxUint64}, {"0000000000000001", 1}, {"0102030405060708", 0x0102030405060708},
	} {
		if got, ok := Number(unhex(t, x.s)); got != x.want || !ok {
			t.Errorf("P5.1: Number %s: %d, %v", x.s, got, ok)
		}
	}
	for _, size := range []int{0, 9, 10, 16, 100, 70000} {
		for _, letter := range []string{"\x00", "\x01", "\xff"} {
			if got, ok := Number(strings.Repeat(letter, size)); got != 0 || ok {
				t.Errorf("P5.1: Number of %d bytes: %d, %v", size, got, ok)
			}
		}
	}
}

func TestBytes(t *testing.T) {
	for _, x := range []struct {
		n    uint64
		k    int
		want string
	}{
		{0, 1, "00"}, {5, 1, "05"}, {256, 1, "00"}, {257, 1, "01"}, {math.MaxUint64, 1, "ff"},
		{0x010203, 2, "0203"}, {0x010203, 3, "010203"}, {0x010203, 4, "00010203"},
		{5, 8, "0000000000000005"}, {math.MaxUint64, 8, "ffffffffffffffff"}, {1 << 63, 8, "8000000000000000"},
		{0x0102030405060708, 8, "0102030405060708"}, {0x0102030405060708, 7, "02030405060708"},
	} {
		if got := Bytes(x.n, x.k); got != unhex(t, x.want) {
			t.Errorf("P5.1: Bytes %d, %d: %x", x.n, x.k, got)
		}
	}
	for _, k := range []int{math.MinInt, -8, -1, 0, 9, 10, 16, 1 << 32, 1<<32 + 1, math.MaxInt} {
		if got := Bytes(5, k); got != "" {
			t.Errorf("P5.1: Bytes 5, %d: %x", k, got)
		}
	}
}

func TestNumberAndBytesThrown(t *testing.T) {
	r := rand.New(rand.NewSource(7))
	for range 5000 {
		n, k := r.Uint64()>>r.Intn(64), 1+r.Intn(8)
		b := Bytes(n, k)
		rest := new(big.Int).Mod(new(big.Int).SetUint64(n), new(big.Int).Lsh(big.NewInt(1), uint(8*k)))
		if len(b) != k || new(big.Int).SetBytes([]byte(b)).Cmp(rest) != 0 {
			t.Fatalf("P5.1: Bytes %d, %d: %x", n, k, b)
		}
		if got, ok := Number(b); !ok || got != rest.Uint64() {
			t.Fatalf("P5.1: Number %x: %d, %v", b, got, ok)
		}
	}
}

func TestListsStay(t *testing.T) {
	room := []api.Opt{{Type: 2}, {Type: 40, Data: "ab"}, {Type: 1}, {Type: 255, Data: "z"}}
	was := append([]api.Opt{}, room...)
	Put(room[:2]...)
	Put(room[:1:4]...)
	Find(room[:2], 40)
	if !reflect.DeepEqual(room, was) {
		t.Errorf("P0.3: the list is %v", room)
	}
}

func TestAnswersAreTheirOwn(t *testing.T) {
	const b = "\x02\x28\x04ab\x03"
	one, _ := Get(b)
	two, _ := Get(b)
	for i := range one[:cap(one)] {
		one[:cap(one)][i] = api.Opt{Type: -1, Data: "spoilt"}
	}
	three, e := Get(b)
	want := []api.Opt{{Type: 2}, {Type: 40, Data: "ab"}, {Type: 3}}
	if e != api.OK || !reflect.DeepEqual(two, want) || !reflect.DeepEqual(three, want) {
		t.Errorf("P0.3: %v and %v", two, three)
	}
}

func TestAgain(t *testing.T) {
	os := []api.Opt{{Type: 40, Data: "ab"}, {Type: 2}}
	first := Put(os...)
	Put(api.Opt{Type: -1})
	Get("\x01")
	Number("123456789")
	Bytes(1, 9)
	if got := Put(os...); got != first {
		t.Errorf("P0.5: Put %x, then %x", first, got)
	}
	if got, e := Get(first); e != api.OK || !same(got, os) {
		t.Errorf("P0.5: Get %v, %d", got, e)
	}
}

func TestLong(t *testing.T) {
	const many = 200000
	os := make([]api.Opt, many)
	for i := range os {
		os[i] = api.Opt{Type: 2 + i%200}
	}
	b := Put(os...)
	got, e := Get(b)
	if e != api.OK || !same(got, os) {
		t.Errorf("P0.1: %d options are %d, %d when they are back", many, len(got), e)
	}
	if got, e := Get(b + "\x01"); e != api.ErrOpt || got != nil {
		t.Errorf("P5.1: %d options and a mandatory: %d", many, e)
	}
}
