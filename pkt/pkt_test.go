package pkt

import (
	"encoding/hex"
	"fmt"
	"math"
	"math/rand"
	"reflect"
	"strconv"
	"strings"
	"testing"

	"muleteer/api"
	"muleteer/head"
	"muleteer/opt"
)

// form is a kind of head, with a letter for each of its bytes: S Src, D Dst, O Off, C both halves, U Sum, T the type, Q Seq, A Ack, V Service, K Code, I Info, a point for what is written as 0.
type form struct {
	t      int
	x      bool
	layout string
}

func forms() []form {
	return []form{
		{api.TRequest, true, "SSDDOCUUT.QQQQQQVVVV"},
		{api.TResponse, true, "SSDDOCUUT.QQQQQQ..AAAAAAVVVV"},
		{api.TData, true, "SSDDOCUUT.QQQQQQ"},
		{api.TData, false, "SSDDOCUUTQQQ"},
		{api.TAck, true, "SSDDOCUUT.QQQQQQ..AAAAAA"},
		{api.TAck, false, "SSDDOCUUTQQQ.AAA"},
		{api.TDataAck, true, "SSDDOCUUT.QQQQQQ..AAAAAA"},
		{api.TDataAck, false, "SSDDOCUUTQQQ.AAA"},
		{api.TCloseReq, true, "SSDDOCUUT.QQQQQQ..AAAAAA"},
		{api.TClose, true, "SSDDOCUUT.QQQQQQ..AAAAAA"},
		{api.TReset, true, "SSDDOCUUT.QQQQQQ..AAAAAAKIII"},
		{api.TSync, true, "SSDDOCUUT.QQQQQQ..AAAAAA"},
		{api.TSyncAck, true, "SSDDOCUUT.QQQQQQ..AAAAAA"},
	}
}

func (f form) has(letter byte) bool { return strings.IndexByte(f.layout, letter) >= 0 }

// size is how many bytes a head has; 0 where there is no such form.
func size(t int, x bool) int {
	for _, f := range forms() {
		if f.t == t && f.x == x {
			return len(f.layout)
		}
	}
	return 0
}

// wantSum adds the words one by one, and brings each carry back at once.
func wantSum(b string) int {
	if len(b)%2 == 1 {
		b += "\x00"
	}
	total := 0
	for i := 0; i < len(b); i += 2 {
		total += int(b[i])*256 + int(b[i+1])
		if total > 65535 {
			total -= 65535
		}
	}
	return 65535 - total
}

// wantCovered is how many of b's bytes are summed by what b's own bytes tell; -1: more than there are.
func wantCovered(b string) int {
	cover := int(b[5]) % 16
	if cover == 0 {
		return len(b)
	}
	n := 4*int(b[4]) + 4*cover - 4
	if n > len(b) {
		return -1
	}
	return n
}

// summed is b with the sum that its bytes ask for in the place of its own; b as it is, where there is none.
func summed(b string) string {
	c := []byte(b)
	c[6], c[7] = 0, 0
	n := wantCovered(string(c))
	if n < 0 {
		return b
	}
	s := wantSum(string(c[:n]))
	c[6], c[7] = byte(s/256), byte(s%256)
	return string(c)
}

// wantPut asks in the order of the chapter, and lays the parts one behind the other.
func wantPut(p api.Pkt) (string, api.Errno) {
	h := p.Head
	h.Off, h.Sum = size(h.Type, h.X)/4, 0
	if !head.May(h) {
		return "", api.ErrForm
	}
	for _, o := range p.Opts {
		if !opt.May(o) {
			return "", api.ErrOpt
		}
	}
	opts := opt.Put(p.Opts...)
	if h.Off+len(opts)/4 > 255 || len(p.Data) > 1400 {
		return "", api.ErrLarge
	}
	b := []byte(head.Put(h) + opts + p.Data)
	b[4] = byte((len(b) - len(p.Data)) / 4)
	if wantCovered(string(b)) < 0 {
		return "", api.ErrCover
	}
	return summed(string(b)), api.OK
}

// wantGet asks in the order of the chapter.
func wantGet(b string) (api.Pkt, api.Errno) {
	if len(b) > 2500 {
		return api.Pkt{}, api.ErrLarge
	}
	h, e := head.Get(b)
	if e != api.OK {
		return api.Pkt{}, e
	}
	n := wantCovered(b)
	if n < 0 {
		return api.Pkt{}, api.ErrCover
	}
	if wantSum(b[:n]) != 0 {
		return api.Pkt{}, api.ErrSum
	}
	os, e := opt.Get(b[size(h.Type, h.X) : 4*int(b[4])])
	if e != api.OK {
		return api.Pkt{}, e
	}
	return api.Pkt{Head: h, Opts: os, Data: b[4*int(b[4]):]}, api.OK
}

// same tells what Eq ought to tell, by another way.
func same(a, b api.Pkt) bool {
	if len(a.Opts) == 0 && len(b.Opts) == 0 {
		a.Opts, b.Opts = nil, nil
	}
	return reflect.DeepEqual(a, b)
}

func text(n int) string { return strings.Repeat("x", n) }

// room are options that have n bytes, a multiple of 4, when they are written.
func room(n int) []api.Opt {
	var os []api.Opt
	for n > 0 {
		k := min(n, 252)
		os = append(os, api.Opt{Type: 99, Data: text(k - 2)})
		n -= k
	}
	return os
}

func unhex(t *testing.T, s string) string {
	t.Helper()
	b, err := hex.DecodeString(strings.ReplaceAll(s, " ", ""))
	if err != nil {
		t.Fatal(err)
	}
	return string(b)
}

// thrownHead is a head of form f that may be, with any Off and Sum.
func thrownHead(r *rand.Rand, f form) api.Head {
	h := api.Head{Src: r.Intn(65536), Dst: r.Intn(65536), Off: r.Intn(600) - 200, CCVal: r.Intn(16), Sum: r.Intn(200000) - 70000, Type: f.t, X: f.x}
	shift := 16
	if !f.x {
		shift = 40
	}
	h.Seq = r.Uint64() >> (shift + r.Intn(64-shift))
	if f.has('A') {
		h.Ack = r.Uint64() >> (shift + r.Intn(64-shift))
	}
	if f.has('V') {
		h.Service = r.Uint32()
	}
	if f.has('K') {
		h.Code, h.Info = r.Intn(256), [3]byte{byte(r.Int()), byte(r.Int()), byte(r.Int())}
	}
	return h
}

// thrownText is n bytes of any kind.
func thrownText(r *rand.Rand, n int) string {
	b := make([]byte, n)
	r.Read(b)
	return string(b)
}

// thrown is a packet of form f, of options and data that may be; what its sum covers may be more than it has.
func thrown(r *rand.Rand, f form) api.Pkt {
	p := api.Pkt{Head: thrownHead(r, f), Data: thrownText(r, r.Intn(1<<r.Intn(8)))}
	if r.Intn(2) == 0 {
		p.Head.CsCov = r.Intn(16)
	}
	for range r.Intn(6) {
		o := api.Opt{Type: r.Intn(256)}
		if o.Type >= 32 {
			o.Data = thrownText(r, r.Intn(1<<r.Intn(7)))
		}
		p.Opts = append(p.Opts, o)
	}
	return p
}

// short is what a failure tells of bytes.
func short(b string) string {
	if len(b) > 60 {
		return strconv.Itoa(len(b)) + " bytes from " + hex.EncodeToString([]byte(b[:60]))
	}
	return hex.EncodeToString([]byte(b))
}

// tell is what a failure tells of a packet.
func tell(p api.Pkt) string {
	s := fmt.Sprintf("%+v, %d options:", p.Head, len(p.Opts))
	for _, o := range p.Opts[:min(len(p.Opts), 3)] {
		s += fmt.Sprintf(" %d %s,", o.Type, short(o.Data))
	}
	return s + " data " + short(p.Data)
}

func checkPut(t *testing.T, name string, p api.Pkt, want api.Errno) string {
	t.Helper()
	b, e := Put(p)
	if e != want {
		t.Fatalf("P7.1, %s: Put %d, not %d: %+v", name, e, want, p.Head)
	}
	if wantB, wantE := wantPut(p); b != wantB || e != wantE {
		t.Fatalf("P7.1, %s: Put %s, %d, not %s, %d", name, short(b), e, short(wantB), wantE)
	}
	return b
}

func checkGet(t *testing.T, name string, b string, want api.Errno) api.Pkt {
	t.Helper()
	p, e := Get(b)
	if e != want {
		t.Fatalf("P7.1, %s: Get %d, not %d: %s", name, e, want, short(b))
	}
	if wantP, wantE := wantGet(b); !same(p, wantP) || e != wantE {
		t.Fatalf("P7.1, %s: Get %s, %d, not %s, %d", name, tell(p), e, tell(wantP), wantE)
	}
	if e != api.OK && (p.Head != (api.Head{}) || p.Opts != nil || p.Data != "") {
		t.Fatalf("P0.2, %s: beside %d: %s", name, e, tell(p))
	}
	return p
}

// good is a packet with 24 bytes of head, 8 of options, 5 of data.
func good() api.Pkt {
	return api.Pkt{Head: api.Head{Src: 1, Dst: 2, Type: api.TDataAck, X: true, Seq: 77, Ack: 5}, Opts: []api.Opt{{Type: 2}, {Type: 40, Data: "xy"}}, Data: "hello"}
}

func TestNamedBytes(t *testing.T) {
	for _, c := range []struct {
		name, bytes string
		p           api.Pkt
	}{
		{"a short Data alone", "0000000003000000" + "04000000", api.Pkt{Head: api.Head{Type: api.TData}}},
		{"a short Data", "00010002030000 00" + "04000003" + "61", api.Pkt{Head: api.Head{Src: 1, Dst: 2, Type: api.TData, Seq: 3}, Data: "a"}},
		{"a Request", "0001000206000000" + "0100000000000007" + "00000009" + "02000000", api.Pkt{Head: api.Head{Src: 1, Dst: 2, Type: api.TRequest, X: true, Seq: 7, Service: 9}, Opts: []api.Opt{{Type: 2}}}},
		{"a DataAck with options", "0001000208000000" + "090000000000004d" + "0000000000000005" + "0228047879000000" + "68656c6c6f", good()},
		{"a Reset", "0001000207000000" + "0f00000000000007" + "0000000000000008" + "05010203", api.Pkt{Head: api.Head{Src: 1, Dst: 2, Type: api.TReset, X: true, Seq: 7, Ack: 8, Code: 5, Info: [3]byte{1, 2, 3}}}},
		{"a cover of the head alone", "0001000204f10000" + "06000003" + "00000004" + "616263", api.Pkt{Head: api.Head{Src: 1, Dst: 2, CCVal: 15, CsCov: 1, Type: api.TAck, Seq: 3, Ack: 4}, Data: "abc"}},
		{"a cover of four bytes", "0001000204020000" + "06000003" + "00000004" + "6162636465", api.Pkt{Head: api.Head{Src: 1, Dst: 2, CsCov: 2, Type: api.TAck, Seq: 3, Ack: 4}, Data: "abcde"}},
	} {
		want := summed(unhex(t, c.bytes))
		got := checkPut(t, c.name, c.p, api.OK)
		if got != want {
			t.Errorf("P7.1, %s: Put %s, not %s", c.name, short(got), short(want))
		}
		p := checkGet(t, c.name, want, api.OK)
		back := c.p
		back.Head.Off, back.Head.Sum = int(want[4]), int(want[6])*256+int(want[7])
		if !Eq(p, back) {
			t.Errorf("P7.1, %s: Get %s, not %s", c.name, tell(p), tell(back))
		}
	}
}

// These sums are reckoned by hand.
func TestNamedSums(t *testing.T) {
	for _, c := range []struct {
		name string
		p    api.Pkt
		want int
	}{
		{"all", api.Pkt{Head: api.Head{Type: api.TData}}, 0xffff - 0x0300 - 0x0400},
		{"an odd byte", api.Pkt{Head: api.Head{Type: api.TData}, Data: "\x01"}, 0xffff - 0x0300 - 0x0400 - 0x0100},
		{"a cover of the head alone", api.Pkt{Head: api.Head{Type: api.TData, CsCov: 1}, Data: "\x01\x02\x03\x04"}, 0xffff - 0x0301 - 0x0400},
		{"a cover of four bytes", api.Pkt{Head: api.Head{Type: api.TData, CsCov: 2}, Data: "\x01\x02\x03\x04\x05\x06"}, 0xffff - 0x0302 - 0x0400 - 0x0102 - 0x0304},
		{"options are covered", api.Pkt{Head: api.Head{Type: api.TData, CsCov: 1}, Opts: []api.Opt{{Type: 2}}, Data: "\x01\x02"}, 0xffff - 0x0401 - 0x0400 - 0x0200},
		{"a carry", api.Pkt{Head: api.Head{Src: 0xffff, Dst: 0xffff, Type: api.TData}}, 0xffff - 0x0300 - 0x0400},
		{"nothing is left", api.Pkt{Head: api.Head{Src: 0xf8ff, Type: api.TData}}, 0},
	} {
		b := checkPut(t, c.name, c.p, api.OK)
		p := checkGet(t, c.name, b, api.OK)
		if p.Head.Sum != c.want {
			t.Errorf("P7.1, %s: the sum is %x, not %x", c.name, p.Head.Sum, c.want)
		}
	}
}

func TestOffAndSumDoNotCount(t *testing.T) {
	want, _ := Put(good())
	for _, off := range []int{math.MinInt, -1, 0, 5, 6, 8, 255, 256, math.MaxInt} {
		for _, s := range []int{math.MinInt, -1, 0, 1, 65535, 65536, math.MaxInt} {
			p := good()
			p.Head.Off, p.Head.Sum = off, s
			if b, e := Put(p); b != want || e != api.OK {
				t.Errorf("P7.1: Put with Off %d and Sum %d: %s, %d", off, s, short(b), e)
			}
		}
	}
}

// turns make of good what Put refuses, the errors in the order in which they are asked.
func turns() []struct {
	name string
	want api.Errno
	turn func(p *api.Pkt)
} {
	type turn = struct {
		name string
		want api.Errno
		turn func(p *api.Pkt)
	}
	return []turn{
		{"no type", api.ErrForm, func(p *api.Pkt) { p.Head.Type = 10 }},
		{"a type below all", api.ErrForm, func(p *api.Pkt) { p.Head.Type = -1 }},
		{"no short form", api.ErrForm, func(p *api.Pkt) { p.Head.Type, p.Head.X = api.TSync, false }},
		{"a port", api.ErrForm, func(p *api.Pkt) { p.Head.Dst = 65536 }},
		{"CCVal", api.ErrForm, func(p *api.Pkt) { p.Head.CCVal = 16 }},
		{"CsCov", api.ErrForm, func(p *api.Pkt) { p.Head.CsCov = 16 }},
		{"CsCov below 0", api.ErrForm, func(p *api.Pkt) { p.Head.CsCov = -1 }},
		{"Seq", api.ErrForm, func(p *api.Pkt) { p.Head.Seq = 1 << 48 }},
		{"Ack", api.ErrForm, func(p *api.Pkt) { p.Head.Ack = 1 << 48 }},
		{"Service", api.ErrForm, func(p *api.Pkt) { p.Head.Service = 1 }},
		{"Code", api.ErrForm, func(p *api.Pkt) { p.Head.Code = 1 }},
		{"Info", api.ErrForm, func(p *api.Pkt) { p.Head.Info[2] = 1 }},
		{"an option's type", api.ErrOpt, func(p *api.Pkt) { p.Opts = append([]api.Opt{{Type: 256}}, p.Opts...) }},
		{"one option alone that may not be", api.ErrOpt, func(p *api.Pkt) { p.Opts = []api.Opt{{Type: -1}} }},
		{"an option with data", api.ErrOpt, func(p *api.Pkt) { p.Opts = append(p.Opts, api.Opt{Type: 31, Data: "x"}) }},
		{"an option with too many data", api.ErrOpt, func(p *api.Pkt) { p.Opts = append(p.Opts, api.Opt{Type: 32, Data: text(254)}) }},
		{"Off", api.ErrLarge, func(p *api.Pkt) { p.Opts = append(p.Opts, room(1000)...) }},
		{"Off, far beyond a byte", api.ErrLarge, func(p *api.Pkt) { p.Opts = append(p.Opts, room(100000)...) }},
		{"Data", api.ErrLarge, func(p *api.Pkt) { p.Data = text(1401) }},
		{"much Data", api.ErrLarge, func(p *api.Pkt) { p.Data = text(1 << 20) }},
		{"a cover", api.ErrCover, func(p *api.Pkt) { p.Head.CsCov, p.Data = 15, p.Data[:min(len(p.Data), 5)] }},
	}
}

// Of two faults the one that the chapter names first is told.
func TestPutFaults(t *testing.T) {
	for i, first := range turns() {
		p := good()
		first.turn(&p)
		checkPut(t, first.name, p, first.want)
		for k, second := range turns() {
			if k == i {
				continue
			}
			p := good()
			first.turn(&p)
			second.turn(&p)
			b, e := Put(p)
			if wantB, wantE := wantPut(p); b != wantB || e != wantE {
				t.Errorf("P7.1, %s and %s: Put %s, %d, not %d", first.name, second.name, short(b), e, wantE)
			}
			if b != "" {
				t.Errorf("P0.2, %s and %s: Put %s", first.name, second.name, short(b))
			}
		}
	}
}

func TestPutFaultsTogether(t *testing.T) {
	for _, c := range []struct {
		name string
		want api.Errno
		turn func(p *api.Pkt)
	}{
		{"all", api.ErrForm, func(p *api.Pkt) {
			p.Head.Src, p.Head.CsCov, p.Opts, p.Data = -1, 15, append(room(2000), api.Opt{Type: -1}), text(1401)
		}},
		{"all but the head", api.ErrOpt, func(p *api.Pkt) {
			p.Head.CsCov, p.Opts, p.Data = 15, append(room(2000), api.Opt{Type: -1}), text(1401)
		}},
		{"Off and a cover", api.ErrLarge, func(p *api.Pkt) { p.Head.CsCov, p.Opts, p.Data = 15, room(2000), "" }},
		{"a cover alone", api.ErrCover, func(p *api.Pkt) { p.Head.CsCov, p.Data = 2, "abc" }},
	} {
		p := good()
		c.turn(&p)
		checkPut(t, c.name, p, c.want)
	}
}

// Each form of head with options up to an Off of 255, and a word more.
func TestPutOff(t *testing.T) {
	for _, f := range forms() {
		h := api.Head{Type: f.t, X: f.x}
		for n := 1020 - len(f.layout) - 8; n <= 1020-len(f.layout)+8; n += 4 {
			want := api.OK
			if n > 1020-len(f.layout) {
				want = api.ErrLarge
			}
			for _, data := range []int{0, 1, 1399, 1400} {
				b := checkPut(t, "Off", api.Pkt{Head: h, Opts: room(n), Data: text(data)}, want)
				if want != api.OK {
					continue
				}
				if len(b) != len(f.layout)+n+data || int(b[4]) != (len(f.layout)+n)/4 {
					t.Errorf("P7.1: Put of type %d with %d bytes of options has %d bytes, Off %d", f.t, n, len(b), b[4])
				}
				checkGet(t, "Off", b, api.OK)
			}
			checkPut(t, "Off", api.Pkt{Head: h, Opts: room(n), Data: text(1401)}, api.ErrLarge)
		}
	}
}

// Options that do not fill their last word take the whole of it.
func TestPutPads(t *testing.T) {
	for n := range 40 {
		p := good()
		p.Opts = make([]api.Opt, n)
		for i := range p.Opts {
			p.Opts[i].Type = 2
		}
		b := checkPut(t, "pads", p, api.OK)
		if off := 6 + (n+3)/4; int(b[4]) != off || len(b) != 4*off+5 {
			t.Errorf("P7.1: Put of %d options has Off %d, %d bytes", n, b[4], len(b))
		}
		if q := checkGet(t, "pads", b, api.OK); len(q.Opts) != n || q.Data != p.Data {
			t.Errorf("P7.1: %d options are %d, data %q when they are back", n, len(q.Opts), q.Data)
		}
	}
	p := good()
	p.Opts = make([]api.Opt, 4*(255-6))
	b := checkPut(t, "OPads", p, api.OK)
	if q := checkGet(t, "OPads", b, api.OK); len(q.Opts) != 0 || q.Data != p.Data || q.Head.Off != 255 {
		t.Errorf("P7.1: OPads are %v, data %q when they are back", q.Opts, q.Data)
	}
	p.Opts = make([]api.Opt, 4*(255-6)+1)
	checkPut(t, "an OPad too many", p, api.ErrLarge)
}

func TestPutData(t *testing.T) {
	for n := range 1404 {
		want := api.OK
		if n > 1400 {
			want = api.ErrLarge
		}
		p := good()
		p.Data = text(n)
		b := checkPut(t, "data", p, want)
		if want == api.OK {
			if q := checkGet(t, "data", b, api.OK); q.Data != p.Data {
				t.Errorf("P7.1: %d bytes of data are %d when they are back", n, len(q.Data))
			}
		}
	}
}

// Each cover with data up to its edge and beyond.
func TestCovers(t *testing.T) {
	for cover := range 16 {
		for n := range 64 {
			want := api.OK
			if cover > 0 && 4*(cover-1) > n {
				want = api.ErrCover
			}
			for _, os := range [][]api.Opt{nil, {{Type: 2}}, room(300)} {
				p := api.Pkt{Head: api.Head{Src: 3, Type: api.TAck, CsCov: cover}, Opts: os, Data: text(n)}
				b := checkPut(t, "cover", p, want)
				if want != api.OK {
					// The packet without a cover tells one afterwards.
					p.Head.CsCov = 0
					c := []byte(checkPut(t, "cover", p, api.OK))
					c[5] = byte(cover)
					checkGet(t, "cover", string(c), api.ErrCover)
					continue
				}
				checkGet(t, "cover", b, api.OK)
				summedBytes := 4*int(b[4]) + 4*(cover-1)
				if cover == 0 {
					summedBytes = len(b)
				}
				for at := 4 * int(b[4]); at < len(b); at++ {
					c := []byte(b)
					c[at] ^= 0x10
					e := api.OK
					if at < summedBytes {
						e = api.ErrSum
					}
					checkGet(t, "a byte of the data", string(c), e)
				}
			}
		}
	}
}

func TestGetFaults(t *testing.T) {
	b, _ := Put(good())
	// set is b with the byte at a place made another, its sum right again.
	set := func(b string, at int, x byte) string {
		c := []byte(b)
		c[at] = x
		return summed(string(c))
	}
	raw := func(b string, at int, x byte) string {
		c := []byte(b)
		c[at] = x
		return string(c)
	}
	mandatory, _ := Put(api.Pkt{Head: good().Head, Opts: []api.Opt{{Type: api.OMandatory}}, Data: "a"})
	for _, c := range []struct {
		name, b string
		want    api.Errno
	}{
		{"as it is", b, api.OK},
		{"nothing", "", api.ErrShort},
		{"2,501 bytes", b + text(2501-len(b)), api.ErrLarge},
		{"2,501 bytes that fit", summed(b + text(2501-len(b))), api.ErrLarge},
		{"2,501 bytes of no type", raw(b, 8, 0x15) + text(2501-len(b)), api.ErrLarge},
		{"a megabyte", text(1 << 20), api.ErrLarge},
		{"2,500 bytes", summed(b + text(2500-len(b))), api.OK},
		{"2,500 bytes that do not fit", b + text(2499-len(b)) + "y", api.ErrSum},
		{"too short", b[:11], api.ErrShort},
		{"too short for its type", b[:23], api.ErrShort},
		{"no type", set(b, 8, 0x15), api.ErrType},
		{"no type, and too short", raw(b, 8, 0x15)[:12], api.ErrType},
		{"no short form", set(b, 8, 0x10), api.ErrForm},
		{"no place", raw(b, 4, 5), api.ErrPlace},
		{"a place beyond the end", raw(b, 4, 10), api.ErrPlace},
		{"no place, and a cover of too much", raw(raw(b, 4, 10), 5, 15), api.ErrPlace},
		{"no place, and options that are none", raw(raw(b, 4, 10), 24, 99), api.ErrPlace},
		{"a cover of too much", raw(b, 5, 3), api.ErrCover},
		{"a cover of too much, and options that are none", raw(raw(b, 5, 15), 26, 0), api.ErrCover},
		{"another sum", raw(b, 6, b[6]^1), api.ErrSum},
		{"a sum of 0", raw(raw(b, 6, 0), 7, 0), api.ErrSum},
		{"another sum, and options that are none", raw(b, 26, 0), api.ErrSum},
		{"no length of an option", set(b, 31, 99), api.ErrOpt},
		{"a length of 0", set(b, 26, 0), api.ErrOpt},
		{"a length of 1", set(b, 26, 1), api.ErrOpt},
		{"a length up to the data", set(b, 26, 7), api.OK},
		{"a length into the data", set(b, 26, 8), api.ErrOpt},
		{"a mandatory alone", mandatory, api.ErrOpt},
		{"a byte behind", b + "x", api.ErrSum},
		{"a byte 0 behind", b + "\x00", api.OK},
		{"no data", b[:32], api.ErrSum},
		{"no data, and a sum for it", summed(b[:32]), api.OK},
	} {
		checkGet(t, c.name, c.b, c.want)
	}
}

// A packet that Put would not have made: more data than are sent at once.
func TestGetLongData(t *testing.T) {
	for _, f := range forms() {
		b := []byte(text(2500))
		copy(b, head.Put(api.Head{Type: f.t, X: f.x, Off: len(f.layout) / 4}))
		p := checkGet(t, "long data", summed(string(b)), api.OK)
		if p.Data != text(2500-len(f.layout)) || len(p.Opts) != 0 {
			t.Errorf("P7.1: type %d: %d bytes of data, %d options", f.t, len(p.Data), len(p.Opts))
		}
		b = append(b, 'x')
		checkGet(t, "long data", summed(string(b)), api.ErrLarge)
	}
}

// 0 and 65,535 are one number to a sum of 16 bits: where Put writes the one, the other fits too.
func TestBothZeros(t *testing.T) {
	b, _ := Put(api.Pkt{Head: api.Head{Src: 0xf8ff, Type: api.TData}})
	if b[6] != 0 || b[7] != 0 {
		t.Fatalf("P7.1: Put %x", b)
	}
	checkGet(t, "0", b, api.OK)
	p := checkGet(t, "65,535", b[:6]+"\xff\xff"+b[8:], api.OK)
	if p.Head.Sum != 65535 {
		t.Errorf("P7.1: Get has the sum %d", p.Head.Sum)
	}
}

// Bytes that a head leaves free may be anything, but they are summed.
func TestFreeBytes(t *testing.T) {
	r := rand.New(rand.NewSource(1))
	for _, f := range forms() {
		want := thrown(r, f)
		want.Head.CsCov = 0
		want.Opts = []api.Opt{{Type: 2}, {Type: 40, Data: "xy"}}
		b, _ := Put(want)
		for i := range 8 * len(f.layout) {
			c := []byte(b)
			c[i/8] ^= 1 << (i % 8)
			if f.layout[i/8] != '.' && (f.layout[i/8] != 'T' || i%8 < 5) {
				continue
			}
			checkGet(t, "a free bit", string(c), api.ErrSum)
			p := checkGet(t, "a free bit, and its sum", summed(string(c)), api.OK)
			p.Head.Sum, p.Head.Off = want.Head.Sum, want.Head.Off
			if !Eq(p, want) {
				t.Errorf("P7.1: bit %d of byte %d of type %d: Get %s, not %s", i%8, i/8, f.t, tell(p), tell(want))
			}
		}
	}
}

// One bit that is turned is always noticed where it is summed.
func TestEachBit(t *testing.T) {
	b, _ := Put(good())
	for i := range 8 * len(b) {
		c := []byte(b)
		c[i/8] ^= 1 << (i % 8)
		if _, e := Get(string(c)); e == api.OK {
			t.Errorf("P7.1: bit %d of byte %d is not noticed", i%8, i/8)
		}
	}
}

func TestGetDropsPads(t *testing.T) {
	p := good()
	p.Opts = []api.Opt{{}, {Type: 2}, {}, {}, {Type: api.OMandatory}, {}, {Type: 40, Data: "\x00\x00"}, {}}
	q := checkGet(t, "pads", checkPut(t, "pads", p, api.OK), api.OK)
	want := []api.Opt{{Type: 2}, {Type: api.OMandatory}, {Type: 40, Data: "\x00\x00"}}
	if !reflect.DeepEqual(q.Opts, want) || q.Data != "hello" {
		t.Errorf("P7.1: Get %v, %q", q.Opts, q.Data)
	}
}

// without is os without what Get leaves out, and whether Get takes them at all.
func without(os []api.Opt) ([]api.Opt, bool) {
	var kept []api.Opt
	for _, o := range os {
		if o.Type != api.OPad {
			kept = append(kept, o)
		}
	}
	for i, o := range kept {
		if o.Type == api.OMandatory && (i+1 == len(kept) || kept[i+1].Type == api.OMandatory) {
			return nil, false
		}
	}
	return kept, true
}

func TestThereAndBack(t *testing.T) {
	r := rand.New(rand.NewSource(2))
	count := map[api.Errno]int{}
	for range 400 {
		for _, f := range forms() {
			p := thrown(r, f)
			_, e := wantPut(p)
			count[e]++
			b := checkPut(t, "thrown", p, e)
			if e != api.OK {
				continue
			}
			os, ok := without(p.Opts)
			if !ok {
				checkGet(t, "thrown", b, api.ErrOpt)
				continue
			}
			q := checkGet(t, "thrown", b, api.OK)
			if again, e := Put(q); e != api.OK || len(os) == len(p.Opts) && again != b {
				t.Fatalf("P7.1: Put(Get) %s, %d, not %s", short(again), e, short(b))
			}
			p.Opts, p.Head.Off, p.Head.Sum = os, int(b[4]), int(b[6])*256+int(b[7])
			if !Eq(p, q) {
				t.Fatalf("P7.1: Get(Put) %s, not %s", tell(q), tell(p))
			}
		}
	}
	if count[api.OK] < 2000 || count[api.ErrCover] < 200 {
		t.Errorf("thrown packets: %v", count)
	}
}

// P0.1: any bytes end in an answer.
func TestAnyBytes(t *testing.T) {
	r := rand.New(rand.NewSource(3))
	count := map[api.Errno]int{}
	for range 40000 {
		b := []byte(thrownText(r, r.Intn(90)))
		if len(b) > 8 && r.Intn(8) > 0 {
			b[4], b[5], b[8] = byte(r.Intn(12)), byte(r.Intn(256)&r.Intn(256)), byte(r.Intn(20)|r.Intn(8)<<5)
		}
		for i := 16; i < len(b); i++ {
			if r.Intn(2) == 0 {
				b[i] = byte(r.Intn(5))
			}
		}
		s := string(b)
		if len(b) > 8 && r.Intn(4) > 0 {
			s = summed(s)
		}
		_, e := wantGet(s)
		count[e]++
		checkGet(t, "thrown", s, e)
	}
	for _, e := range []api.Errno{api.OK, api.ErrShort, api.ErrType, api.ErrForm, api.ErrPlace, api.ErrCover, api.ErrSum, api.ErrOpt} {
		if count[e] < 100 {
			t.Errorf("thrown bytes: %v", count)
		}
	}
}

// Each beginning of a packet, with the sum that it had and with its own.
func TestEachLength(t *testing.T) {
	p := good()
	p.Opts = append(p.Opts, room(300)...)
	b, _ := Put(p)
	for n := range len(b) {
		_, e := wantGet(b[:n])
		checkGet(t, "a beginning", b[:n], e)
		if n > 8 {
			s := b[:n]
			if 4*int(b[4]) <= n {
				s = summed(s)
			}
			_, e := wantGet(s)
			checkGet(t, "a beginning, and its sum", s, e)
		}
	}
}

func TestEq(t *testing.T) {
	whole := func() api.Pkt {
		return api.Pkt{
			Head: api.Head{Src: 1, Dst: 2, Off: 3, CCVal: 4, CsCov: 5, Sum: 6, Type: 7, X: true, Seq: 8, Ack: 9, Service: 10, Code: 11, Info: [3]byte{12, 13, 14}},
			Opts: []api.Opt{{Type: 2}, {Type: 40, Data: "xy"}}, Data: "hello",
		}
	}
	if !Eq(whole(), whole()) || !Eq(api.Pkt{}, api.Pkt{}) {
		t.Error("P7.1: a packet is not Eq to one like it")
	}
	for _, c := range []struct {
		name string
		turn func(p *api.Pkt)
	}{
		{"Src", func(p *api.Pkt) { p.Head.Src++ }},
		{"Dst", func(p *api.Pkt) { p.Head.Dst-- }},
		{"Off", func(p *api.Pkt) { p.Head.Off++ }},
		{"CCVal", func(p *api.Pkt) { p.Head.CCVal++ }},
		{"CsCov", func(p *api.Pkt) { p.Head.CsCov++ }},
		{"Sum", func(p *api.Pkt) { p.Head.Sum = math.MinInt }},
		{"Type", func(p *api.Pkt) { p.Head.Type += 1 << 32 }},
		{"X", func(p *api.Pkt) { p.Head.X = false }},
		{"Seq", func(p *api.Pkt) { p.Head.Seq += 1 << 48 }},
		{"Ack", func(p *api.Pkt) { p.Head.Ack++ }},
		{"Service", func(p *api.Pkt) { p.Head.Service = math.MaxUint32 }},
		{"Code", func(p *api.Pkt) { p.Head.Code = -1 }},
		{"Info, the first", func(p *api.Pkt) { p.Head.Info[0]++ }},
		{"Info, the last", func(p *api.Pkt) { p.Head.Info[2]++ }},
		{"no options", func(p *api.Pkt) { p.Opts = nil }},
		{"an option less", func(p *api.Pkt) { p.Opts = p.Opts[:1] }},
		{"the first option less", func(p *api.Pkt) { p.Opts = p.Opts[1:] }},
		{"an option more", func(p *api.Pkt) { p.Opts = append(p.Opts, api.Opt{}) }},
		{"an option's type", func(p *api.Pkt) { p.Opts[0].Type = 3 }},
		{"an option's data", func(p *api.Pkt) { p.Opts[1].Data = "xz" }},
		{"an option's data, longer", func(p *api.Pkt) { p.Opts[1].Data = "xyz" }},
		{"the options' order", func(p *api.Pkt) { p.Opts[0], p.Opts[1] = p.Opts[1], p.Opts[0] }},
		{"no data", func(p *api.Pkt) { p.Data = "" }},
		{"data", func(p *api.Pkt) { p.Data = "hellp" }},
		{"data, longer", func(p *api.Pkt) { p.Data += "\x00" }},
	} {
		p := whole()
		c.turn(&p)
		if Eq(p, whole()) || Eq(whole(), p) {
			t.Errorf("P7.1: %s: Eq", c.name)
		}
		if !Eq(p, p) {
			t.Errorf("P7.1: %s: not Eq to itself", c.name)
		}
	}
}

func TestNilLikeEmpty(t *testing.T) {
	empty, none := good(), good()
	empty.Opts, none.Opts = []api.Opt{}, nil
	spare := good()
	spare.Opts = spare.Opts[:0]
	for _, p := range []api.Pkt{empty, none, spare} {
		for _, q := range []api.Pkt{empty, none, spare} {
			if !Eq(p, q) {
				t.Error("P7.1: nil is not like empty")
			}
		}
		b := checkPut(t, "no options", p, api.OK)
		if q := checkGet(t, "no options", b, api.OK); len(q.Opts) != 0 || q.Head.Off != 6 {
			t.Errorf("P0.4: Get %s", tell(q))
		}
	}
	one := good()
	one.Opts = []api.Opt{{}}
	if Eq(one, none) || Eq(none, one) || Eq(one, empty) || Eq(empty, one) {
		t.Error("P7.1: an OPad is like nothing")
	}
}

func TestListsStay(t *testing.T) {
	list := []api.Opt{{Type: 2}, {Type: 40, Data: "ab"}, {Type: 1}, {Type: 255, Data: "z"}}
	was := append([]api.Opt{}, list...)
	for _, os := range [][]api.Opt{list[:2], list[:1:4], list, list[:0]} {
		p := good()
		p.Opts = os
		before := p.Head
		b, _ := Put(p)
		Eq(p, p)
		Get(b)
		if !reflect.DeepEqual(list, was) || p.Head != before {
			t.Errorf("P0.3: the list is %v", list)
		}
	}
	p := good()
	first, _ := Put(p)
	p.Opts[0].Type = 3
	if second, _ := Put(p); second == first {
		t.Error("P0.3: a list is kept")
	}
}

func TestAnswersAreTheirOwn(t *testing.T) {
	b, _ := Put(good())
	one, _ := Get(b)
	two, _ := Get(b)
	for i := range one.Opts[:cap(one.Opts)] {
		one.Opts[:cap(one.Opts)][i] = api.Opt{Type: -1, Data: "spoilt"}
	}
	three, e := Get(b)
	if e != api.OK || !reflect.DeepEqual(two.Opts, good().Opts) || !Eq(two, three) {
		t.Errorf("P0.3: %s and %s", tell(two), tell(three))
	}
}

func TestAgain(t *testing.T) {
	r := rand.New(rand.NewSource(4))
	var ps []api.Pkt
	var bs []string
	for _, f := range forms() {
		for range 20 {
			p := thrown(r, f)
			b, _ := Put(p)
			ps, bs = append(ps, p), append(bs, b)
			Get(b + "x")
			Put(api.Pkt{Head: api.Head{Type: r.Intn(20)}})
		}
	}
	for i := len(ps) - 1; i >= 0; i-- {
		if b, _ := Put(ps[i]); b != bs[i] {
			t.Fatalf("P0.5: Put %s, then %s", short(bs[i]), short(b))
		}
	}
}

func TestHuge(t *testing.T) {
	p := good()
	p.Data = text(1 << 24)
	checkPut(t, "16 megabytes of data", p, api.ErrLarge)
	p.Head.CsCov = 15
	checkPut(t, "16 megabytes of data, and a cover", p, api.ErrLarge)
	p = good()
	p.Opts = make([]api.Opt, 1<<20)
	checkPut(t, "a million of OPads", p, api.ErrLarge)
	p.Opts[len(p.Opts)-1].Type = -1
	checkPut(t, "a million of OPads, and one that may not be", p, api.ErrOpt)
	checkGet(t, "16 megabytes", text(1<<24), api.ErrLarge)
	if !Eq(p, p) {
		t.Error("P7.1: a million of options are not Eq to themselves")
	}
}
