package nego

import (
	"cmp"
	"encoding/hex"
	"fmt"
	"math"
	"math/rand"
	"slices"
	"strings"
	"testing"

	"muleteer/api"
	"muleteer/opt"
)

// values are those that a feature's list may have, rising.
var values = map[int]string{
	api.FCcid:   "\x02\x03",
	api.FVector: "\x00\x01",
	api.FCover:  "\x00\x01\x02\x03\x04\x05\x06\x07\x08\x09\x0a\x0b\x0c\x0d\x0e\x0f",
}

// defaults are what holds of each feature at first.
var defaults = map[int]string{1: "\x02", 3: "\x00\x00\x00\x00\x00\x64", 6: "\x00", 8: "\x00"}

var features = []int{1, 3, 6, 8}

// others are numbers of no feature, some of which pass for one where they are cut to fewer bits.
var others = []int{math.MinInt, math.MinInt + 1, -1 << 32, -1<<32 + 3, -256, -255, -8, -6, -3, -2, -1, 0, 2, 4, 5, 7, 9, 10, 16, 255, 256, 257, 259, 262, 264, 1<<32 + 1, 1<<32 + 8, math.MaxInt - 1, math.MaxInt}

func window(n int) string { return opt.Bytes(uint64(n), 6) }

func byteText(b int) string { return string([]byte{byte(b)}) }

func unhex(t *testing.T, s string) string {
	t.Helper()
	b, err := hex.DecodeString(strings.ReplaceAll(s, " ", ""))
	if err != nil {
		t.Fatal(err)
	}
	return string(b)
}

// o is an option of hexadecimal data.
func o(t int, data string) api.Opt {
	b, err := hex.DecodeString(data)
	if err != nil {
		panic(err)
	}
	return api.Opt{Type: t, Data: string(b)}
}

var must = api.Opt{Type: api.OMandatory}

// text is options, one behind the other.
func text(os []api.Opt) string {
	var out strings.Builder
	for _, x := range os {
		fmt.Fprintf(&out, "%d:%x ", x.Type, x.Data)
	}
	return out.String()
}

func hold(t *testing.T, name string, n *Nego, want ...api.Opt) {
	t.Helper()
	if got := text(n.Opts()); got != text(want) {
		t.Errorf("P19.2, %s: Opts %s, not %s", name, got, text(want))
	}
}

func wants(t *testing.T, n *Nego, f int, v string) {
	t.Helper()
	if errno := n.Want(f, v); errno != api.OK {
		t.Fatalf("P19.1: Want %d, %x: %d", f, v, errno)
	}
}

func likes(t *testing.T, n *Nego, f int, v string) {
	t.Helper()
	if errno := n.Like(f, v); errno != api.OK {
		t.Fatalf("P19.1: Like %d, %x: %d", f, v, errno)
	}
}

func takes(t *testing.T, name string, n *Nego, want bool, os ...api.Opt) {
	t.Helper()
	if got := n.Take(os); got != want {
		t.Errorf("P19.2, %s: Take %s: %v", name, text(os), got)
	}
}

func TestNew(t *testing.T) {
	for _, server := range []bool{false, true} {
		n := New(server)
		if !n.Done() || len(n.Opts()) != 0 {
			t.Errorf("P19.2: New %v asks for something", server)
		}
		for _, f := range features {
			if n.Mine(f) != defaults[f] || n.Theirs(f) != defaults[f] {
				t.Errorf("P19.1: New %v, %d: Mine %x, Theirs %x", server, f, n.Mine(f), n.Theirs(f))
			}
		}
		for _, f := range others {
			if n.Mine(f) != "" || n.Theirs(f) != "" {
				t.Errorf("P19.1: New %v, %d: Mine %x, Theirs %x", server, f, n.Mine(f), n.Theirs(f))
			}
		}
	}
}

// mayBe are some texts that may be asked for, mayNot some that may not.
var mayBe = map[int][]string{
	1: {"02", "03", "0203", "0302"},
	3: {"000000000020", "000000000064", "0000000003e8"},
	6: {"00", "01", "0001", "0100"},
	8: {"00", "0f", "0f00", "000102030405060708090a0b0c0d0e0f"},
}

var mayNot = map[int][]string{
	1: {"", "01", "04", "0202", "020302", "0204", "000000000064"},
	3: {"", "64", "00000000001f", "0000000003e9", "0000000064", "00000000000064", "800000000064"},
	6: {"", "02", "0000", "000102", "31"},
	8: {"", "10", "0f0f", "000102030405060708090a0b0c0d0e0f00", "000000000064"},
}

func TestWantAndLikeRefuse(t *testing.T) {
	for _, server := range []bool{false, true} {
		n := New(server)
		for _, f := range features {
			for _, v := range mayNot[f] {
				if n.Want(f, unhex(t, v)) != api.ErrForm || n.Like(f, unhex(t, v)) != api.ErrForm {
					t.Errorf("P19.1: Want or Like %d, %s is not ErrForm", f, v)
				}
			}
		}
		for _, f := range others {
			for _, v := range []string{"", "00", "02", "000000000064", "ff"} {
				if n.Want(f, unhex(t, v)) != api.ErrNone || n.Like(f, unhex(t, v)) != api.ErrNone {
					t.Errorf("P19.1: Want or Like %d, %s is not ErrNone", f, v)
				}
			}
		}
		if !n.Done() || len(n.Opts()) != 0 {
			t.Errorf("P19.1: what was refused is asked for")
		}
		for _, f := range features {
			for _, v := range mayBe[f] {
				if n.Want(f, unhex(t, v)) != api.OK || n.Like(f, unhex(t, v)) != api.OK {
					t.Errorf("P19.1: Want or Like %d, %s is not OK", f, v)
				}
			}
		}
	}
}

// What is refused leaves what was told before.
func TestRefusedChangesNothing(t *testing.T) {
	n := New(true)
	for _, f := range features {
		v := unhex(t, mayBe[f][1])
		wants(t, n, f, v)
		likes(t, n, f, v)
		for _, bad := range mayNot[f] {
			n.Want(f, unhex(t, bad))
			n.Like(f, unhex(t, bad))
		}
	}
	for _, f := range others {
		n.Want(f, "\x02")
		n.Like(f, "\x02")
	}
	takes(t, "asked behind what was refused", n, true, o(api.OChangeL, "010203"), o(api.OChangeL, "060001"), o(api.OChangeL, "08000f"))
	hold(t, "behind what was refused", n, o(api.OConfirmR, "010303"), o(api.OConfirmR, "060101"), o(api.OConfirmR, "080f0f"),
		o(api.OChangeL, "0103"), o(api.OChangeL, "03000000000064"), o(api.OChangeL, "0601"), o(api.OChangeL, "080f"))
}

func TestAsking(t *testing.T) {
	n := New(false)
	wants(t, n, api.FCover, "\x05\x00")
	wants(t, n, api.FWindow, window(32))
	for range 3 {
		hold(t, "two, rising", n, o(api.OChangeL, "03000000000020"), o(api.OChangeL, "080500"))
	}
	wants(t, n, api.FVector, "\x01")
	wants(t, n, api.FCcid, "\x03\x02")
	wants(t, n, api.FWindow, window(1000))
	for range 3 {
		hold(t, "all, one of them anew", n, o(api.OChangeL, "010302"), o(api.OChangeL, "030000000003e8"), o(api.OChangeL, "0601"), o(api.OChangeL, "080500"))
	}
	if n.Done() || n.Mine(api.FWindow) != window(100) || n.Mine(api.FCcid) != "\x02" || n.Theirs(api.FCcid) != "\x02" {
		t.Errorf("P19.1: something was agreed on by asking")
	}
	takes(t, "a Confirm of what was asked for ahead", n, false, o(api.OConfirmR, "03000000000020"))
	takes(t, "Confirms", n, true, o(api.OConfirmR, "030000000003e8"), o(api.OConfirmR, "06"), o(api.OConfirmR, "0103"))
	hold(t, "one is left", n, o(api.OChangeL, "080500"))
	if n.Done() {
		t.Errorf("P19.2: Done while one is left")
	}
	takes(t, "the last Confirm", n, true, o(api.OConfirmR, "0800"))
	hold(t, "none is left", n)
	if !n.Done() || n.Mine(api.FWindow) != window(1000) || n.Mine(api.FVector) != "\x00" || n.Mine(api.FCcid) != "\x03" || n.Mine(api.FCover) != "\x00" {
		t.Errorf("P19.2: what was confirmed does not hold")
	}
	wants(t, n, api.FCcid, "\x03")
	hold(t, "asked for again, though it holds", n, o(api.OChangeL, "0103"))
	takes(t, "confirmed again, with f alone", n, true, o(api.OConfirmR, "01"))
	if !n.Done() || n.Mine(api.FCcid) != "\x03" {
		t.Errorf("P19.2: f alone took away what was agreed on: %x", n.Mine(api.FCcid))
	}
}

func TestEachIsAskedForByItself(t *testing.T) {
	for _, f := range features {
		for _, v := range mayBe[f] {
			n := New(true)
			wants(t, n, f, unhex(t, v))
			want := o(api.OChangeL, fmt.Sprintf("%02x", f)+v)
			hold(t, "alone", n, want)
			if n.Done() {
				t.Errorf("P19.2: Done while %d is asked for", f)
			}
			for _, g := range features {
				if g != f {
					takes(t, "a Confirm of another", n, true, o(api.OConfirmR, fmt.Sprintf("%02x", g)), o(api.OConfirmR, fmt.Sprintf("%02xff", g)))
				}
			}
			hold(t, "confirmed others", n, want)
		}
	}
}

func TestConfirm(t *testing.T) {
	for _, x := range []struct {
		name    string
		f       int
		want    string // "": it is not asked for
		confirm string
		ok      bool
		mine    string // "": the default, still asked for; "-": the default, asked for no more
	}{
		{"not asked for", 1, "", "0103", true, "-"},
		{"not asked for, may not be", 1, "", "0104", true, "-"},
		{"not asked for, f alone", 1, "", "01", true, "-"},
		{"not asked for, a window", 3, "", "03000000000020", true, "-"},
		{"not known", 1, "03", "0203", true, ""},
		{"not known, f alone", 1, "03", "02", true, ""},
		{"not known, 0", 1, "03", "0003", true, ""},
		{"not known, 9", 8, "05", "0905", true, ""},
		{"not known, 255", 8, "05", "ff05", true, ""},
		{"f alone", 1, "0302", "01", true, "-"},
		{"the first", 1, "0302", "0103", true, "03"},
		{"the second", 1, "0203", "0103", true, "03"},
		{"what is behind is passed by", 1, "03", "0103020304ff", true, "03"},
		{"what is behind is passed by, the value twice", 1, "03", "010303", true, "03"},
		{"not of the list", 1, "03", "0102", false, ""},
		{"not of the list, which stands behind", 1, "03", "010203", false, ""},
		{"may not be", 1, "0203", "0104", false, ""},
		{"0", 1, "0203", "0100", false, ""},
		{"a vector of 0", 6, "00", "0600", true, "00"},
		{"a vector of 1", 6, "0001", "060100", true, "01"},
		{"no such vector", 6, "01", "0600", false, ""},
		{"a cover", 8, "000102030405060708090a0b0c0d0e0f", "080f", true, "0f"},
		{"a cover in the midst", 8, "0f0a05", "080a", true, "0a"},
		{"no such cover", 8, "0f0a05", "0806", false, ""},
		{"a cover beyond", 8, "000102030405060708090a0b0c0d0e0f", "0810", false, ""},
		{"f alone of a cover", 8, "0f", "08", true, "-"},
		{"the window", 3, "0000000000c8", "030000000000c8", true, "0000000000c8"},
		{"the window of 1000", 3, "0000000003e8", "030000000003e8", true, "0000000003e8"},
		{"f alone of a window", 3, "0000000000c8", "03", true, "-"},
		{"another window", 3, "0000000000c8", "030000000000c9", false, ""},
		{"the window that holds", 3, "0000000000c8", "03000000000064", false, ""},
		{"a window and more", 3, "0000000000c8", "030000000000c800", false, ""},
		{"a window twice", 3, "0000000000c8", "030000000000c80000000000c8", false, ""},
		{"a window of fewer bytes", 3, "0000000000c8", "0300000000c8", false, ""},
		{"a window of one byte", 3, "0000000000c8", "03c8", false, ""},
		{"a window's first byte", 3, "0000000000c8", "0300", false, ""},
		{"a window's first five bytes", 3, "0000000000c8", "030000000000", false, ""},
		{"a window with a higher bit", 3, "0000000000c8", "038000000000c8", false, ""},
	} {
		for _, ahead := range [][]api.Opt{nil, {must}} {
			for _, server := range []bool{false, true} {
				n := New(server)
				if x.want != "" {
					wants(t, n, x.f, unhex(t, x.want))
				}
				takes(t, x.name, n, x.ok, append(ahead, o(api.OConfirmR, x.confirm))...)
				mine, asks := defaults[x.f], 0
				switch x.mine {
				case "":
					asks = 1
				case "-":
				default:
					mine = unhex(t, x.mine)
				}
				if n.Mine(x.f) != mine || n.Theirs(x.f) != defaults[x.f] || n.Done() != (asks == 0) || len(n.Opts()) != asks {
					t.Errorf("P19.2, %s: Mine %x, Theirs %x, Done %v", x.name, n.Mine(x.f), n.Theirs(x.f), n.Done())
				}
			}
		}
	}
}

// What a Confirm says counts for the last Want, and behind it there is none to confirm.
func TestConfirmTwice(t *testing.T) {
	n := New(false)
	wants(t, n, api.FCover, "\x01\x02")
	wants(t, n, api.FCover, "\x03\x04")
	takes(t, "of the Want ahead", n, false, o(api.OConfirmR, "0801"))
	takes(t, "of the last Want, then another", n, true, o(api.OConfirmR, "0804"), o(api.OConfirmR, "0803"), o(api.OConfirmR, "0801"), o(api.OConfirmR, "08"))
	if n.Mine(api.FCover) != "\x04" || !n.Done() {
		t.Errorf("P19.2: Mine %x", n.Mine(api.FCover))
	}
}

func TestChange(t *testing.T) {
	for _, x := range []struct {
		name   string
		server bool
		f      int
		like   string // "": none was told
		ask    string
		want   string // what stands in the answer behind f
		theirs string // "": the default
	}{
		{"a server at first", true, 1, "", "0302", "02 0203", "02"},
		{"a client at first", false, 1, "", "0302", "03 0203", "03"},
		{"a server's like goes ahead", true, 1, "0203", "0302", "02 0203", "02"},
		{"a server's like goes ahead, turned about", true, 1, "0302", "0203", "03 0302", "03"},
		{"a client's like does not", false, 1, "0203", "0302", "03 0203", "03"},
		{"a client's like does not, turned about", false, 1, "0302", "0203", "02 0302", "02"},
		{"one alone", false, 1, "03", "0203", "03 03", "03"},
		{"one alone of a server's", true, 1, "03", "0203", "03 03", "03"},
		{"no choice", true, 1, "02", "03", "", ""},
		{"no choice of a client's", false, 1, "03", "02", "", ""},
		{"nothing", true, 1, "", "", "", ""},
		{"may not be", true, 1, "", "04", "", ""},
		{"one of them may not be", false, 1, "", "0304", "", ""},
		{"one of them twice", true, 1, "", "030203", "", ""},
		{"too long", false, 1, "", "0203020302", "", ""},
		{"a vector", true, 6, "", "01", "01 0001", "01"},
		{"vectors, a client", false, 6, "", "0100", "01 0001", "01"},
		{"vectors, a server", true, 6, "", "0100", "00 0001", "00"},
		{"no such vector", true, 6, "", "02", "", ""},
		{"a cover", true, 8, "", "0f07", "07 000102030405060708090a0b0c0d0e0f", "07"},
		{"a cover, a client", false, 8, "", "0f07", "0f 000102030405060708090a0b0c0d0e0f", "0f"},
		{"all covers", false, 8, "0f0e", "000102030405060708090a0b0c0d0e0f", "0e 0f0e", "0e"},
		{"all covers, a server", true, 8, "0e0f", "000102030405060708090a0b0c0d0e0f", "0e 0e0f", "0e"},
		{"no cover", false, 8, "0102", "0304", "", ""},
		{"a cover beyond", true, 8, "", "0010", "", ""},
		{"a window", true, 3, "", "000000000028", "000000000028", "000000000028"},
		{"a window, a client", false, 3, "", "0000000003e8", "0000000003e8", "0000000003e8"},
		{"a window, of which another is liked", true, 3, "0000000001f4", "000000000020", "000000000020", "000000000020"},
		{"a window, of which another is liked by a client", false, 3, "0000000001f4", "000000000020", "000000000020", "000000000020"},
		{"no window", true, 3, "", "", "", ""},
		{"a window of too little", false, 3, "", "00000000001f", "", ""},
		{"a window of too much", true, 3, "", "0000000003e9", "", ""},
		{"a window of fewer bytes", false, 3, "", "0000000064", "", ""},
		{"a window of more bytes", true, 3, "", "00000000000064", "", ""},
		{"not known", true, 0, "", "02", "", ""},
		{"not known", false, 2, "", "02", "", ""},
		{"not known", true, 4, "", "000000000064", "", ""},
		{"not known", false, 5, "", "00", "", ""},
		{"not known", true, 7, "", "", "", ""},
		{"not known", true, 9, "", "00", "", ""},
		{"not known", false, 129, "", "02", "", ""},
		{"not known", true, 255, "", "00", "", ""},
	} {
		f := byteText(x.f)
		ask := api.Opt{Type: api.OChangeL, Data: f + unhex(t, x.ask)}
		answer := api.Opt{Type: api.OConfirmR, Data: f + unhex(t, x.want)}
		for _, ahead := range [][]api.Opt{nil, {must}} {
			n := New(x.server)
			if x.like != "" {
				likes(t, n, x.f, unhex(t, x.like))
			}
			if ahead != nil && x.want == "" {
				takes(t, x.name, n, false, must, ask)
				hold(t, x.name, n)
			} else {
				takes(t, x.name, n, true, append(ahead, ask)...)
				hold(t, x.name, n, answer)
				hold(t, x.name+", once", n)
			}
			theirs := defaults[x.f]
			if x.theirs != "" {
				theirs = unhex(t, x.theirs)
			}
			if n.Theirs(x.f) != theirs || n.Mine(x.f) != defaults[x.f] || !n.Done() {
				t.Errorf("P19.2, %s: Theirs %x, Mine %x", x.name, n.Theirs(x.f), n.Mine(x.f))
			}
		}
	}
}

// A Change without a choice leaves what was agreed on; a Like behind it doesn't take it back.
func TestTheirsStays(t *testing.T) {
	n := New(false)
	takes(t, "agreed on", n, true, o(api.OChangeL, "0103"), o(api.OChangeL, "030000000003e8"))
	likes(t, n, api.FCcid, "\x02")
	likes(t, n, api.FWindow, window(32))
	takes(t, "without a choice", n, true, o(api.OChangeL, "0103"), o(api.OChangeL, "03000000000001"), o(api.OChangeL, "01"))
	takes(t, "without a choice, though it must be", n, false, must, o(api.OChangeL, "0103"))
	takes(t, "confirmed, but not asked for", n, true, o(api.OConfirmR, "0102"), o(api.OConfirmL, "0102"), o(api.OChangeR, "0102"))
	if n.Theirs(api.FCcid) != "\x03" || n.Theirs(api.FWindow) != window(1000) || n.Mine(api.FCcid) != "\x02" {
		t.Errorf("P19.2: Theirs %x, %x", n.Theirs(api.FCcid), n.Theirs(api.FWindow))
	}
	takes(t, "another choice", n, true, o(api.OChangeL, "010302"))
	if n.Theirs(api.FCcid) != "\x02" {
		t.Errorf("P19.2: Theirs %x", n.Theirs(api.FCcid))
	}
}

func TestAnswersInOrder(t *testing.T) {
	n := New(true)
	wants(t, n, api.FCcid, "\x03")
	takes(t, "the first packet", n, true, o(api.OChangeL, "080900"), o(api.OChangeR, "0102"), o(api.OChangeL, "0102"))
	likes(t, n, api.FCcid, "\x03")
	takes(t, "the second packet", n, false, o(api.OChangeL, "0502"), o(api.OChangeL, "0102"), o(api.OChangeR, "09"), o(api.OChangeR, ""), o(api.OChangeR, "03"))
	takes(t, "the third packet", n, true, o(api.OChangeL, "08"), o(api.OChangeL, "08"), o(api.OConfirmR, "0103"))
	wants(t, n, api.FVector, "\x01")
	hold(t, "of three packets", n,
		o(api.OConfirmR, "0800000102030405060708090a0b0c0d0e0f"), o(api.OConfirmL, "01"), o(api.OConfirmR, "01020203"),
		o(api.OConfirmR, "05"), o(api.OConfirmR, "01"), o(api.OConfirmL, "09"),
		o(api.OConfirmR, "08"), o(api.OConfirmR, "08"),
		o(api.OChangeL, "0601"))
	hold(t, "once each", n, o(api.OChangeL, "0601"))
	if n.Mine(api.FCcid) != "\x03" || n.Theirs(api.FCcid) != "\x02" || n.Theirs(api.FCover) != "\x00" {
		t.Errorf("P19.2: Mine %x, Theirs %x, %x", n.Mine(api.FCcid), n.Theirs(api.FCcid), n.Theirs(api.FCover))
	}
}

// A ChangeR is answered with f alone, whatever f and what stands behind it.
func TestChangeR(t *testing.T) {
	for f := range 256 {
		for _, v := range []string{"", "\x02", "\x00\x01", window(40), strings.Repeat("\x03", 252)} {
			n := New(f%2 == 0)
			ask := api.Opt{Type: api.OChangeR, Data: byteText(f) + v}
			takes(t, "a ChangeR", n, true, ask)
			hold(t, "a ChangeR", n, api.Opt{Type: api.OConfirmL, Data: byteText(f)})
			takes(t, "a ChangeR that must be", n, false, must, ask)
			hold(t, "a ChangeR that must be", n)
			takes(t, "a ConfirmL", n, true, must, api.Opt{Type: api.OConfirmL, Data: byteText(f) + v})
			hold(t, "a ConfirmL", n)
			if n.Mine(f) != defaults[f] || n.Theirs(f) != defaults[f] || !n.Done() {
				t.Errorf("P19.2: a ChangeR of %d, %x: Mine %x, Theirs %x", f, v, n.Mine(f), n.Theirs(f))
			}
		}
	}
}

func TestWithoutAByte(t *testing.T) {
	for _, kind := range []int{api.OChangeL, api.OConfirmL, api.OChangeR, api.OConfirmR} {
		for _, ahead := range [][]api.Opt{nil, {must}} {
			n := New(true)
			wants(t, n, api.FCcid, "\x03")
			takes(t, "without a byte", n, false, append(ahead, api.Opt{Type: kind}, o(api.OConfirmR, "0103"), o(api.OChangeL, "0103"))...)
			hold(t, "without a byte", n, o(api.OChangeL, "0103"))
			if n.Mine(api.FCcid) != "\x02" || n.Theirs(api.FCcid) != "\x02" {
				t.Errorf("P19.2: what stands behind a %d without a byte was heard", kind)
			}
		}
	}
}

// known tells whether an OMandatory may stand ahead of an option of the type.
func known(kind int) bool {
	return slices.Contains([]int{38, 39, 43, 193, 194, 32, 33, 34, 35}, kind)
}

func TestMandatoryOfEachType(t *testing.T) {
	far := []int{math.MinInt, -1 << 32, -1<<32 + 38, 1<<32 + 32, 1<<32 + 38, 256 + 38, 65536 + 193, math.MaxInt}
	for kind := -300; kind < 600; kind++ {
		far = append(far, kind)
	}
	for _, kind := range far {
		for _, data := range []string{"", "\x01\x02", strings.Repeat("x", 300)} {
			if data == "" && 32 <= kind && kind <= 35 || kind == api.OChangeR || kind == api.OChangeL && len(data) > 2 {
				continue // these have tests of their own
			}
			x := api.Opt{Type: kind, Data: data}
			n := New(false)
			takes(t, "an option", n, true, x)
			n.Opts()
			takes(t, "an option that must be", n, known(kind), must, x)
			n.Opts()
			takes(t, "an option behind one that must be", n, true, must, o(api.OElapsed, ""), x)
			n.Opts()
			if kind != api.OMandatory {
				takes(t, "an option ahead of an OMandatory", n, true, x, must)
				n.Opts()
			}
			if !known(kind) && n.Theirs(api.FCcid) != "\x02" {
				t.Errorf("P19.2: %d changed Theirs", kind)
			}
		}
	}
}

func TestMandatory(t *testing.T) {
	ask := o(api.OChangeL, "0103")
	answer := o(api.OConfirmR, "01030203")
	for _, x := range []struct {
		name string
		os   []api.Opt
		ok   bool
		want []api.Opt
	}{
		{"nothing behind it", []api.Opt{must}, true, nil},
		{"nothing behind the last", []api.Opt{ask, must}, true, []api.Opt{answer}},
		{"another", []api.Opt{must, must}, false, nil},
		{"another, then what is known", []api.Opt{must, must, ask}, false, nil},
		{"an OPad", []api.Opt{must, o(api.OPad, ""), ask}, false, nil},
		{"an OSlow", []api.Opt{must, o(api.OSlow, ""), ask}, false, nil},
		{"what is known", []api.Opt{must, ask, must, ask}, true, []api.Opt{answer, answer}},
		{"with data", []api.Opt{o(api.OMandatory, "01"), o(api.OSlow, ""), ask}, false, nil},
		{"it counts for the next one alone", []api.Opt{must, ask, o(api.OSlow, ""), o(api.OChangeL, "0501"), o(api.OChangeR, "01")}, true, []api.Opt{answer, o(api.OConfirmR, "05"), o(api.OConfirmL, "01")}},
		{"what came due ahead stays", []api.Opt{o(api.OChangeR, "08"), ask, must, o(api.OChangeL, "0101"), ask}, false, []api.Opt{o(api.OConfirmL, "08"), answer}},
		{"the window", []api.Opt{must, o(api.OChangeL, "03000000000020")}, true, []api.Opt{o(api.OConfirmR, "03000000000020")}},
		{"no window", []api.Opt{must, o(api.OChangeL, "0300000000001f"), ask}, false, nil},
		{"a Confirm of nothing asked for", []api.Opt{must, o(api.OConfirmR, "0502"), ask}, true, []api.Opt{answer}},
	} {
		n := New(true)
		takes(t, x.name, n, x.ok, x.os...)
		hold(t, x.name, n, x.want...)
		heard := len(x.want) > 0 && slices.Contains(x.want, answer)
		if (n.Theirs(api.FCcid) == "\x03") != heard {
			t.Errorf("P19.2, %s: Theirs %x", x.name, n.Theirs(api.FCcid))
		}
	}
	n := New(false)
	n.Take([]api.Opt{must})
	takes(t, "an OMandatory at the end of another packet", n, true, o(api.OSlow, ""))
}

// At the first false all behind is passed by, and what was heard ahead of it holds.
func TestFirstFalse(t *testing.T) {
	for _, bad := range [][]api.Opt{{must, o(api.OSlow, "")}, {o(api.OConfirmR, "0102")}, {o(api.OChangeL, "")}, {must, o(api.OChangeR, "08")}} {
		n := New(true)
		wants(t, n, api.FCcid, "\x03")
		wants(t, n, api.FVector, "\x01")
		wants(t, n, api.FCover, "\x05")
		os := []api.Opt{o(api.OConfirmR, "0601"), o(api.OChangeL, "0601")}
		os = append(os, bad...)
		os = append(os, o(api.OConfirmR, "0805"), o(api.OChangeL, "0805"), o(api.OConfirmR, "0103"))
		takes(t, "one in the midst", n, false, os...)
		hold(t, "one in the midst", n, o(api.OConfirmR, "06010001"), o(api.OChangeL, "0103"), o(api.OChangeL, "0805"))
		if n.Mine(6) != "\x01" || n.Theirs(6) != "\x01" || n.Mine(8) != "\x00" || n.Theirs(8) != "\x00" || n.Mine(1) != "\x02" {
			t.Errorf("P19.2: %s in the midst: Mine %x, %x, Theirs %x, %x", text(bad), n.Mine(6), n.Mine(8), n.Theirs(6), n.Theirs(8))
		}
		takes(t, "behind it", n, true, o(api.OConfirmR, "0103"))
	}
}

func TestNil(t *testing.T) {
	var none *Nego
	for _, f := range append(others, features...) {
		for _, v := range []string{"", "\x02", "\x00", window(100), strings.Repeat("x", 1000)} {
			if none.Want(f, v) != api.ErrOff || none.Like(f, v) != api.ErrOff || none.Mine(f) != "" || none.Theirs(f) != "" {
				t.Errorf("P19.2: nil, of %d, %x", f, v)
			}
		}
	}
	for _, os := range [][]api.Opt{nil, {}, {must}, {o(api.OChangeL, "0102")}, {o(api.OElapsed, "")}} {
		if none.Take(os) || len(none.Opts()) != 0 || !none.Done() {
			t.Errorf("P19.2: nil, of %s", text(os))
		}
	}
}

// The chapter leaves open what one that New did not make tells; its calls end.
func TestUnmade(t *testing.T) {
	for _, f := range append(others, features...) {
		n := new(Nego)
		n.Done()
		n.Mine(f)
		n.Theirs(f)
		n.Take([]api.Opt{{Type: api.OChangeL, Data: byteText(f) + "\x02"}, {Type: api.OChangeR, Data: byteText(f)}, {Type: api.OConfirmR, Data: byteText(f) + "\x02"}})
		n.Want(f, "\x00")
		n.Like(f, "\x00")
		n.Take([]api.Opt{{Type: api.OConfirmR, Data: byteText(f) + "\x00"}, {Type: api.OChangeL, Data: byteText(f) + "\x00"}})
		n.Opts()
	}
}

func TestListsStay(t *testing.T) {
	room := make([]api.Opt, 8)
	for k := range room {
		room[k] = o(api.OChangeL, "0102")
	}
	os := room[:3]
	was := slices.Clone(room)
	n := New(true)
	wants(t, n, api.FCcid, "\x03")
	n.Take(os)
	if !slices.Equal(room, was) {
		t.Errorf("P0.3: Take changed its list")
	}
	for k := range room {
		room[k] = api.Opt{Type: -1, Data: "x"}
	}
	answer, ask := o(api.OConfirmR, "01020203"), o(api.OChangeL, "0103")
	got := n.Opts()
	if text(got) != text([]api.Opt{answer, answer, answer, ask}) {
		t.Errorf("P0.3: Take kept its list: %s", text(got))
	}
	spoil(got)
	hold(t, "behind what was written into an answer", n, ask)
	spoil(n.Opts())
	n.Take([]api.Opt{o(api.OChangeL, "0102")})
	spoil(got)
	hold(t, "behind what was written into an older answer", n, answer, ask)
	n.Take([]api.Opt{o(api.OChangeL, "0102"), o(api.OChangeR, "01")})
	first := n.Opts()
	kept := text(first)
	n.Take([]api.Opt{o(api.OChangeR, "08"), o(api.OChangeR, "08"), o(api.OChangeR, "08")})
	spoil(n.Opts())
	if text(first) != kept {
		t.Errorf("P0.3: a later answer changed an older one")
	}
}

// spoil writes into a list and its spare room.
func spoil(os []api.Opt) {
	os = os[:cap(os)]
	for k := range os {
		os[k] = api.Opt{Type: 99, Data: "spoilt"}
	}
}

func TestLong(t *testing.T) {
	const many = 200000
	n := New(false)
	wants(t, n, api.FCover, "\x05")
	var os []api.Opt
	for k := range many {
		os = append(os, api.Opt{Type: api.OChangeL, Data: "\x01" + byteText(2+k%2)}, o(api.OConfirmL, "01"), must, o(api.OLoss, ""))
	}
	takes(t, "long", n, true, os...)
	got := n.Opts()
	if len(got) != many+1 || got[0].Data != "\x01\x02\x02\x03" || got[many-1].Data != "\x01\x03\x02\x03" || got[many].Type != api.OChangeL || n.Theirs(api.FCcid) != "\x03" {
		t.Errorf("P19.2: %d answers of %d", len(got), many)
	}
	hold(t, "long, once each", n, o(api.OChangeL, "0805"))
	long := strings.Repeat("\x05", 1<<20)
	for _, f := range features {
		if n.Want(f, long) != api.ErrForm || n.Like(f, long) != api.ErrForm {
			t.Errorf("P19.1: %d, of %d bytes, is not ErrForm", f, len(long))
		}
		takes(t, "long data", n, true, api.Opt{Type: api.OChangeL, Data: byteText(f) + long})
		hold(t, "long data", n, api.Opt{Type: api.OConfirmR, Data: byteText(f)}, o(api.OChangeL, "0805"))
	}
	takes(t, "a long Confirm", n, true, api.Opt{Type: api.OConfirmR, Data: "\x08" + long})
	if n.Mine(api.FCover) != "\x05" || !n.Done() {
		t.Errorf("P19.2: Mine %x", n.Mine(api.FCover))
	}
}

func TestTwoByThemselves(t *testing.T) {
	one, two := New(true), New(true)
	wants(t, one, api.FCcid, "\x03")
	likes(t, one, api.FVector, "\x01")
	takes(t, "one", one, true, o(api.OChangeL, "080f"), o(api.OConfirmR, "0103"))
	if !two.Done() || two.Mine(1) != "\x02" || two.Theirs(8) != "\x00" {
		t.Errorf("P0.5: what one was told another one tells")
	}
	takes(t, "two", two, true, o(api.OChangeL, "060100"))
	hold(t, "two", two, o(api.OConfirmR, "06000001"))
}

// chosen is what a server and a client come to.
func chosen(server, client string) string {
	for i := range len(server) {
		if strings.Contains(client, server[i:i+1]) {
			return server[i : i+1]
		}
	}
	return ""
}

// hand brings what one side says to the other one, as bytes.
func hand(t *testing.T, from, to *Nego) {
	t.Helper()
	os, errno := opt.Get(opt.Put(from.Opts()...))
	if errno != api.OK || !to.Take(os) {
		t.Fatalf("P19.2: what one side said was not taken: %s", text(os))
	}
}

// Two sides that ask and like whatever may be come to the same, with packets that are lost.
func TestTwoSidesAgree(t *testing.T) {
	r := rand.New(rand.NewSource(1))
	for range 3000 {
		server, client := New(true), New(false)
		want := map[*Nego]map[int]string{server: {}, client: {}}
		for _, f := range []int{1, 6, 8} {
			ask, like := thrownList(r, f), thrownList(r, f)
			wants(t, server, f, ask)
			likes(t, client, f, like)
			want[server][f] = cmp.Or(chosen(ask, like), defaults[f])
			ask, like = thrownList(r, f), thrownList(r, f)
			wants(t, client, f, ask)
			likes(t, server, f, like)
			want[client][f] = cmp.Or(chosen(like, ask), defaults[f])
		}
		w := window(32 + r.Intn(969))
		wants(t, client, 3, w)
		want[client][3], want[server][3] = w, defaults[3]
		for range r.Intn(3) {
			client.Opts() // this packet is lost
		}
		for range 3 {
			hand(t, client, server)
			hand(t, server, client)
		}
		if !server.Done() || !client.Done() || len(server.Opts())+len(client.Opts()) != 0 {
			t.Fatal("P19.2: two sides came to no end")
		}
		for _, f := range features {
			if server.Mine(f) != want[server][f] || client.Theirs(f) != want[server][f] || client.Mine(f) != want[client][f] || server.Theirs(f) != want[client][f] {
				t.Fatalf("P19.2: %d: %x, %x, %x, %x", f, server.Mine(f), client.Theirs(f), client.Mine(f), server.Theirs(f))
			}
		}
	}
}

// thrownList is some of the feature's values, in any order.
func thrownList(r *rand.Rand, f int) string {
	b := []byte(values[f])
	r.Shuffle(len(b), func(i, j int) { b[i], b[j] = b[j], b[i] })
	return string(b[:1+r.Intn(len(b))])
}
