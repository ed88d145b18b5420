package head

import (
	"encoding/hex"
	"math"
	"math/rand"
	"strings"
	"testing"

	"muleteer/api"
)

// form is a kind of head, with a letter for each of its bytes: S Src, D Dst, O Off, C both halves, U Sum, T the type, Q Seq, A Ack, V Service, K Code, I Info, a point for what is written as 0.
type form struct {
	t      int
	x      bool
	layout string
}

func forms() []form {
	return []form{
		{api.TRequest, true, "SSDDOCUUT.QQQQQQVVVV"},
		{api.TResponse, true, "SSDDOCUUT.QQQQQQ..AAAAAAVVVV"},
		{api.TData, true, "SSDDOCUUT.QQQQQQ"},
		{api.TData, false, "SSDDOCUUTQQQ"},
		{api.TAck, true, "SSDDOCUUT.QQQQQQ..AAAAAA"},
		{api.TAck, false, "SSDDOCUUTQQQ.AAA"},
		{api.TDataAck, true, "SSDDOCUUT.QQQQQQ..AAAAAA"},
		{api.TDataAck, false, "SSDDOCUUTQQQ.AAA"},
		{api.TCloseReq, true, "SSDDOCUUT.QQQQQQ..AAAAAA"},
		{api.TClose, true, "SSDDOCUUT.QQQQQQ..AAAAAA"},
		{api.TReset, true, "SSDDOCUUT.QQQQQQ..AAAAAAKIII"},
		{api.TSync, true, "SSDDOCUUT.QQQQQQ..AAAAAA"},
		{api.TSyncAck, true, "SSDDOCUUT.QQQQQQ..AAAAAA"},
	}
}

// formOf is the one form of type t with or without x, if there is one.
func formOf(t int, x bool) (form, bool) {
	for _, f := range forms() {
		if f.t == t && f.x == x {
			return f, true
		}
	}
	return form{}, false
}

func (f form) has(letter byte) bool { return strings.IndexByte(f.layout, letter) >= 0 }

// pick is the number that the bytes of b at a letter are, the highest byte first.
func (f form) pick(b string, letter byte) uint64 {
	n := uint64(0)
	for i := range len(f.layout) {
		if f.layout[i] == letter {
			n = n*256 + uint64(b[i])
		}
	}
	return n
}

// lay writes n into the bytes of b at a letter, the highest byte first.
func (f form) lay(b []byte, letter byte, n uint64) {
	for i := len(f.layout) - 1; i >= 0; i-- {
		if f.layout[i] == letter {
			b[i] = byte(n % 256)
			n /= 256
		}
	}
}

// wantPut lays each field of h, which may be, where the layout has it.
func wantPut(h api.Head) string {
	f, _ := formOf(h.Type, h.X)
	b := make([]byte, len(f.layout))
	t := uint64(2 * h.Type)
	if h.X {
		t++
	}
	info := uint64(h.Info[0])*65536 + uint64(h.Info[1])*256 + uint64(h.Info[2])
	for letter, n := range map[byte]uint64{'S': uint64(h.Src), 'D': uint64(h.Dst), 'O': uint64(h.Off), 'C': uint64(16*h.CCVal + h.CsCov), 'U': uint64(h.Sum), 'T': t, 'Q': h.Seq, 'A': h.Ack, 'V': uint64(h.Service), 'K': uint64(h.Code), 'I': info} {
		f.lay(b, letter, n)
	}
	return string(b)
}

// wantErrno asks in the order of the chapter.
func wantErrno(b string) api.Errno {
	if len(b) < 12 {
		return api.ErrShort
	}
	t, x := int(b[8])%32/2, b[8]%2 == 1
	if t > 9 {
		return api.ErrType
	}
	f, ok := formOf(t, x)
	if !ok {
		return api.ErrForm
	}
	if len(b) < len(f.layout) {
		return api.ErrShort
	}
	if off := 4 * int(b[4]); off < len(f.layout) || off > len(b) {
		return api.ErrPlace
	}
	return api.OK
}

func wantGet(b string) (api.Head, api.Errno) {
	if e := wantErrno(b); e != api.OK {
		return api.Head{}, e
	}
	t, x := int(b[8])%32/2, b[8]%2 == 1
	f, _ := formOf(t, x)
	info := f.pick(b, 'I')
	return api.Head{
		Src: int(f.pick(b, 'S')), Dst: int(f.pick(b, 'D')), Off: int(f.pick(b, 'O')),
		CCVal: int(f.pick(b, 'C')) / 16, CsCov: int(f.pick(b, 'C')) % 16, Sum: int(f.pick(b, 'U')),
		Type: t, X: x, Seq: f.pick(b, 'Q'), Ack: f.pick(b, 'A'), Service: uint32(f.pick(b, 'V')),
		Code: int(f.pick(b, 'K')), Info: [3]byte{byte(info / 65536), byte(info / 256), byte(info)},
	}, api.OK
}

// thrown is a head of form f that may be, of thrown numbers of all lengths.
func thrown(r *rand.Rand, f form) api.Head {
	size := len(f.layout) / 4
	h := api.Head{Src: r.Intn(65536), Dst: r.Intn(65536), Off: size + r.Intn(256-size), CCVal: r.Intn(16), CsCov: r.Intn(16), Sum: r.Intn(65536), Type: f.t, X: f.x}
	shift := 16
	if !f.x {
		shift = 40
	}
	h.Seq = r.Uint64() >> (shift + r.Intn(64-shift))
	if f.has('A') {
		h.Ack = r.Uint64() >> (shift + r.Intn(64-shift))
	}
	if f.has('V') {
		h.Service = r.Uint32() >> r.Intn(32)
	}
	if f.has('K') {
		h.Code, h.Info = r.Intn(256), [3]byte{byte(r.Int()), byte(r.Int()), byte(r.Int())}
	}
	return h
}

// edges are numbers that no type is, and at which a reckoning with bytes turns.
func edges() []int {
	ns := []int{math.MinInt, math.MinInt + 1, math.MaxInt - 1, math.MaxInt, -256, -16, -10}
	for _, k := range []uint{4, 5, 8, 9, 16, 24, 31, 32, 48, 62} {
		ns = append(ns, 1<<k-1, 1<<k, 1<<k+1, -1<<k)
	}
	return ns
}

func checkMay(t *testing.T, name string, h api.Head, want bool) {
	t.Helper()
	if got := May(h); got != want {
		t.Errorf("P4.1: %s: May is %t: %+v", name, got, h)
	}
	wantBytes := ""
	if want {
		wantBytes = wantPut(h)
	}
	if got := Put(h); got != wantBytes {
		t.Errorf("P4.2: %s: Put is %x, not %x: %+v", name, got, wantBytes, h)
	}
}

func checkGet(t *testing.T, b string) {
	t.Helper()
	want, wantE := wantGet(b)
	if h, e := Get(b); h != want || e != wantE {
		t.Fatalf("P4.2: Get(%x, %d bytes) is %+v, %d, not %+v, %d", b[:min(len(b), 28)], len(b), h, e, want, wantE)
	}
}

func TestNamedSizes(t *testing.T) {
	for _, c := range []struct {
		name        string
		t           int
		ack         bool
		long, short int
	}{
		{"Request", api.TRequest, false, 20, 0},
		{"Response", api.TResponse, true, 28, 0},
		{"Data", api.TData, false, 16, 12},
		{"Ack", api.TAck, true, 24, 16},
		{"DataAck", api.TDataAck, true, 24, 16},
		{"CloseReq", api.TCloseReq, true, 24, 0},
		{"Close", api.TClose, true, 24, 0},
		{"Reset", api.TReset, true, 28, 0},
		{"Sync", api.TSync, true, 24, 0},
		{"SyncAck", api.TSyncAck, true, 24, 0},
		{"one below the first type", -1, false, 0, 0},
		{"one above the last type", 10, false, 0, 0},
		{"what 4 bits hold", 15, false, 0, 0},
	} {
		if got := HasAck(c.t); got != c.ack {
			t.Errorf("P4.1: %s: HasAck is %t", c.name, got)
		}
		if long, short := Size(c.t, true), Size(c.t, false); long != c.long || short != c.short {
			t.Errorf("P4.1: %s: Size is %d, %d without x, not %d, %d", c.name, long, short, c.long, c.short)
		}
	}
}

func TestNoType(t *testing.T) {
	for _, n := range append(edges(), -1, 10) {
		if HasAck(n) || Size(n, true) != 0 || Size(n, false) != 0 {
			t.Errorf("P4.1: %d: HasAck is %t, Size %d, %d without x", n, HasAck(n), Size(n, true), Size(n, false))
		}
		for _, off := range []int{0, 3, 7, 50, 255} {
			checkMay(t, "no type", api.Head{Type: n, Off: off}, false)
			checkMay(t, "no type, X", api.Head{Type: n, Off: off, X: true}, false)
		}
	}
}

// TestFields turns one field at a time of a head that may be, to its edges and beyond.
func TestFields(t *testing.T) {
	for _, f := range forms() {
		size := len(f.layout) / 4
		base := api.Head{Src: 1, Dst: 2, Off: size, Type: f.t, X: f.x}
		whole := func(name string, low, high int, at func(h *api.Head) *int) {
			for _, n := range append(edges(), low-1, low, low+1, high-1, high, high+1, 0, -1, 1) {
				h := base
				*at(&h) = n
				checkMay(t, name, h, low <= n && n <= high)
			}
		}
		whole("Src", 0, 65535, func(h *api.Head) *int { return &h.Src })
		whole("Dst", 0, 65535, func(h *api.Head) *int { return &h.Dst })
		whole("Off", size, 255, func(h *api.Head) *int { return &h.Off })
		whole("CCVal", 0, 15, func(h *api.Head) *int { return &h.CCVal })
		whole("CsCov", 0, 15, func(h *api.Head) *int { return &h.CsCov })
		whole("Sum", 0, 65535, func(h *api.Head) *int { return &h.Sum })
		code := 0
		if f.t == api.TReset {
			code = 255
		}
		whole("Code", 0, code, func(h *api.Head) *int { return &h.Code })

		end := uint64(1 << 24)
		if f.x {
			end = 1 << 48
		}
		for _, n := range []uint64{0, 1, 1<<24 - 1, 1 << 24, 1<<24 + 1, 1<<48 - 1, 1 << 48, 1<<48 + 1, 1 << 63, math.MaxUint64} {
			h := base
			h.Seq = n
			checkMay(t, "Seq", h, n < end)
			h = base
			h.Ack = n
			checkMay(t, "Ack", h, n == 0 || f.has('A') && n < end)
		}
		for _, n := range []uint32{0, 1, 1 << 24, math.MaxUint32} {
			h := base
			h.Service = n
			checkMay(t, "Service", h, n == 0 || f.t == api.TRequest || f.t == api.TResponse)
		}
		for _, n := range [][3]byte{{}, {1, 0, 0}, {0, 1, 0}, {0, 0, 1}, {255, 255, 255}} {
			h := base
			h.Info = n
			checkMay(t, "Info", h, n == [3]byte{} || f.t == api.TReset)
		}
	}
}

// A type that has no short form may not be without X, whatever else it has.
func TestShortForms(t *testing.T) {
	for k := range 10 {
		want := k == api.TData || k == api.TAck || k == api.TDataAck
		for off := -1; off < 300; off++ {
			least := 4
			if k == api.TData {
				least = 3
			}
			checkMay(t, "a short form", api.Head{Type: k, Off: off}, want && off >= least && off <= 255)
		}
	}
}

func TestNamedBytes(t *testing.T) {
	for _, c := range []struct {
		name, bytes string
		h           api.Head
	}{
		{"Request", "000100020f120304" + "0100060708090a0b" + "fffefdfc", api.Head{Src: 1, Dst: 2, Off: 15, CCVal: 1, CsCov: 2, Sum: 0x0304, Type: api.TRequest, X: true, Seq: 0x060708090a0b, Service: 0xfffefdfc}},
		{"Response", "fffeff0207f0ffff" + "0300ffffffffffff" + "0000800000000001" + "00000009", api.Head{Src: 0xfffe, Dst: 0xff02, Off: 7, CCVal: 15, Sum: 0xffff, Type: api.TResponse, X: true, Seq: 1<<48 - 1, Ack: 1<<47 + 1, Service: 9}},
		{"Data", "0000000004000000" + "0500000000000000", api.Head{Off: 4, Type: api.TData, X: true}},
		{"Data, short", "01020304030f0001" + "04fffefd", api.Head{Src: 0x0102, Dst: 0x0304, Off: 3, CsCov: 15, Sum: 1, Type: api.TData, Seq: 0xfffefd}},
		{"Ack", "00000000ff000000" + "0700000000000001" + "0000000000000002", api.Head{Off: 255, Type: api.TAck, X: true, Seq: 1, Ack: 2}},
		{"Ack, short", "0000000004000000" + "06010203" + "00040506", api.Head{Off: 4, Type: api.TAck, Seq: 0x010203, Ack: 0x040506}},
		{"DataAck", "0000000006000000" + "0900060708090a0b" + "00000c0d0e0f1011", api.Head{Off: 6, Type: api.TDataAck, X: true, Seq: 0x060708090a0b, Ack: 0x0c0d0e0f1011}},
		{"DataAck, short", "0000000004000000" + "08ffffff" + "00fffffe", api.Head{Off: 4, Type: api.TDataAck, Seq: 1<<24 - 1, Ack: 1<<24 - 2}},
		{"CloseReq", "0000000006000000" + "0b00000000000003" + "0000000000000004", api.Head{Off: 6, Type: api.TCloseReq, X: true, Seq: 3, Ack: 4}},
		{"Close", "0000000006000000" + "0d00000000000005" + "0000000000000006", api.Head{Off: 6, Type: api.TClose, X: true, Seq: 5, Ack: 6}},
		{"Reset", "0000000007000000" + "0f00000000000007" + "0000000000000008" + "ff010203", api.Head{Off: 7, Type: api.TReset, X: true, Seq: 7, Ack: 8, Code: 255, Info: [3]byte{1, 2, 3}}},
		{"Sync", "0000000006000000" + "1100000000000009" + "000000000000000a", api.Head{Off: 6, Type: api.TSync, X: true, Seq: 9, Ack: 10}},
		{"SyncAck", "0000000006000000" + "130000000000000b" + "000000000000000c", api.Head{Off: 6, Type: api.TSyncAck, X: true, Seq: 11, Ack: 12}},
	} {
		if !May(c.h) {
			t.Errorf("P4.1: %s: May does not hold", c.name)
		}
		if got := hex.EncodeToString([]byte(Put(c.h))); got != c.bytes {
			t.Errorf("P4.2: %s: Put is %s, not %s", c.name, got, c.bytes)
		}
		b, _ := hex.DecodeString(c.bytes)
		if h, e := Get(string(b) + strings.Repeat("\x07", 4*c.h.Off-len(b))); h != c.h || e != api.OK {
			t.Errorf("P4.2: %s: Get is %+v, %d, not %+v", c.name, h, e, c.h)
		}
	}
}

func TestNamedFaults(t *testing.T) {
	for _, c := range []struct {
		name, bytes string
		want        api.Errno
	}{
		{"nothing", "", api.ErrShort},
		{"11 bytes of a short Data", "0000000003000000" + "040000", api.ErrShort},
		{"11 bytes of no type", "0000000000000000" + "1f0000", api.ErrShort},
		{"11 bytes of what has no short form", "0000000000000000" + "000000", api.ErrShort},
		{"12 bytes of a short Data", "0000000003000000" + "04000000", api.OK},
		{"12 bytes of a long Data", "0000000004000000" + "05000000", api.ErrShort},
		{"no type, and too short for each long head", "0000000000000000" + "15000000", api.ErrType},
		{"no type without X, and no short form", "0000000000000000" + "14000000", api.ErrType},
		{"the last that is no type", "0000000003000000" + "1e000000", api.ErrType},
		{"no short form, and too short", "0000000007000000" + "10000000", api.ErrForm},
		{"no short form, and no place for data", "0000000000000000" + "0c00000000000000" + "0000000000000000", api.ErrForm},
		{"a short Ack that lacks a byte", "0000000004000000" + "06000000" + "000000", api.ErrShort},
		{"a short Ack that lacks a byte, and no place for data", "0000000000000000" + "06000000" + "000000", api.ErrShort},
		{"a long Data that lacks a byte", "0000000004000000" + "05000000000000", api.ErrShort},
		{"a Request that lacks a byte", "0000000005000000" + "0100000000000000" + "000000", api.ErrShort},
		{"a Reset that lacks a byte", "0000000007000000" + "0f00000000000000" + "0000000000000000" + "000000", api.ErrShort},
		{"data within the head", "0000000003000000" + "06000000" + "00000000", api.ErrPlace},
		{"data at the beginning", "0000000000000000" + "04000000", api.ErrPlace},
		{"data behind the end", "0000000004000000" + "04000000", api.ErrPlace},
		{"data behind the end by one byte", "0000000004000000" + "04000000" + "ffffff", api.ErrPlace},
		{"data at the end", "0000000004000000" + "04000000" + "ffffffff", api.OK},
		{"data a byte ahead of the end", "0000000004000000" + "04000000" + "ffffffffff", api.OK},
		{"data as far on as may be, behind the end", "00000000ff000000" + "04000000" + strings.Repeat("00", 1007), api.ErrPlace},
		{"data as far on as may be", "00000000ff000000" + "04000000" + strings.Repeat("00", 1008), api.OK},
		{"the highest bits of the byte with the type", "0000000003000000" + "e4000000", api.OK},
		{"the highest bits of the byte with the type, and no type", "0000000003000000" + "f4000000", api.ErrType},
	} {
		b, bad := hex.DecodeString(c.bytes)
		if bad != nil {
			t.Fatal(bad)
		}
		h, e := Get(string(b))
		if e != c.want || e != api.OK && h != (api.Head{}) {
			t.Errorf("P4.2: %s: Get is %+v, %d, not %d", c.name, h, e, c.want)
		}
		checkGet(t, string(b))
	}
}

// A head that may be comes back as it was, whatever stands behind it.
func TestThereAndBack(t *testing.T) {
	r := rand.New(rand.NewSource(1))
	for _, f := range forms() {
		for range 3000 {
			h := thrown(r, f)
			checkMay(t, "thrown", h, true)
			b := Put(h)
			if len(b) != Size(h.Type, h.X) {
				t.Fatalf("P4.2: Put of %+v has %d bytes, not %d", h, len(b), Size(h.Type, h.X))
			}
			tail := make([]byte, max(0, 4*h.Off-len(b))+r.Intn(9))
			r.Read(tail)
			if got, e := Get(b + string(tail)); got != h || e != api.OK {
				t.Fatalf("P4.2: Get(Put) is %+v, %d, not %+v", got, e, h)
			}
		}
	}
}

// Each bit that the chapter leaves free changes nothing; each other one of the head does, and none behind it.
func TestEveryBit(t *testing.T) {
	r := rand.New(rand.NewSource(2))
	for _, f := range forms() {
		for range 20 {
			h := thrown(r, f)
			h.Off = 8 + r.Intn(6)
			b := []byte(Put(h))
			b = append(b, make([]byte, 4*h.Off-len(b)+r.Intn(5))...)
			for i := range 8 * len(b) {
				b[i/8] ^= 1 << (i % 8)
				free := i/8 >= len(f.layout) || f.layout[i/8] == '.' || f.layout[i/8] == 'T' && i%8 > 4
				got, e := Get(string(b))
				if same := got == h && e == api.OK; same != free {
					t.Fatalf("P4.2: bit %d of byte %d of %+v: Get is %+v, %d", i%8, i/8, h, got, e)
				}
				checkGet(t, string(b))
				b[i/8] ^= 1 << (i % 8)
			}
		}
	}
}

// Each byte with a type, with each Off about an edge, at each length about an edge.
func TestEveryPlace(t *testing.T) {
	r := rand.New(rand.NewSource(3))
	b := make([]byte, 1030)
	r.Read(b)
	for kind := range 256 {
		b[8] = byte(kind)
		for _, off := range []int{0, 1, 2, 3, 4, 5, 6, 7, 8, 63, 64, 127, 128, 129, 192, 254, 255} {
			b[4] = byte(off)
			for n := range 30 {
				checkGet(t, string(b[:n]))
			}
			for n := max(0, 4*off-1); n < 4*off+5; n++ {
				checkGet(t, string(b[:n]))
			}
		}
	}
}

// P0.1: any bytes end in an answer, and only heads that may be are answered.
func TestAnyBytes(t *testing.T) {
	r := rand.New(rand.NewSource(4))
	for range 50000 {
		b := make([]byte, r.Intn(60))
		r.Read(b)
		if len(b) > 8 && r.Intn(4) > 0 {
			b[4], b[8] = byte(r.Intn(16)), byte(r.Intn(20)|r.Intn(8)<<5)
		}
		checkGet(t, string(b))
		if h, e := Get(string(b)); e == api.OK && !May(h) {
			t.Fatalf("P4.2: Get(%x) is %+v, which may not be", b, h)
		}
	}
	checkGet(t, strings.Repeat("\x04", 1<<20))
	checkGet(t, strings.Repeat("\x05", 1<<20))
}

// P0.5: what a call answers hangs on its arguments alone, not on the calls before it.
func TestAgain(t *testing.T) {
	r := rand.New(rand.NewSource(5))
	var heads []api.Head
	var bytes []string
	for _, f := range forms() {
		for range 20 {
			h := thrown(r, f)
			heads = append(heads, h, api.Head{Type: f.t, X: f.x, Off: r.Intn(300)})
			bytes = append(bytes, Put(h)+strings.Repeat("\xaa", 1020))
		}
	}
	first := make([]string, len(heads))
	for i, h := range heads {
		first[i] = Put(h)
	}
	for i := len(heads) - 1; i >= 0; i-- {
		if again := Put(heads[i]); again != first[i] || May(heads[i]) != (again != "") {
			t.Fatalf("P0.5: Put of %+v: first %x, then %x", heads[i], first[i], again)
		}
	}
	for i := len(bytes) - 1; i >= 0; i-- {
		if h, e := Get(bytes[i]); h != heads[2*i] || e != api.OK {
			t.Fatalf("P0.5: Get of %x is %+v, %d", bytes[i][:28], h, e)
		}
	}
}
