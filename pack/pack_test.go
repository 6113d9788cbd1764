package pack

import (
	"encoding/binary"
	"hash/crc32"
	"math"
	"strings"
	"testing"
	"unsafe"

	"rillbook/api"
)

// packedNumbers has the edges of each count of bytes that the document speaks of.
var packedNumbers = []struct {
	n int
	s string
}{
	{0, "\x00"},
	{1, "\x01"},
	{127, "\x7f"},
	{128, "\x80\x01"},
	{129, "\x81\x01"},
	{255, "\xff\x01"},
	{256, "\x80\x02"},
	{300, "\xac\x02"},
	{1<<14 - 1, "\xff\x7f"},
	{1 << 14, "\x80\x80\x01"},
	{1<<21 - 1, "\xff\xff\x7f"},
	{1 << 21, "\x80\x80\x80\x01"},
	{1 << 40, "\x80\x80\x80\x80\x80\x20"},
	{1<<56 - 1, "\xff\xff\xff\xff\xff\xff\xff\x7f"},
	{1 << 56, "\x80\x80\x80\x80\x80\x80\x80\x80\x01"},
	{1 << 62, "\x80\x80\x80\x80\x80\x80\x80\x80\x40"},
	{math.MaxInt, "\xff\xff\xff\xff\xff\xff\xff\xff\x7f"},
}

var wrongNumbers = []struct {
	s    string
	want api.Errno
}{
	{"", api.ErrMore},
	{"\x80", api.ErrMore},
	{"\xff", api.ErrMore},
	{"\x80\x80", api.ErrMore},
	{strings.Repeat("\x80", 8), api.ErrMore},
	{strings.Repeat("\xff", 8), api.ErrMore},
	{"\x80\x00", api.ErrForm},
	{"\xff\x00", api.ErrForm},
	{"\x80\x80\x00", api.ErrForm},
	{"\x80\x00\x01", api.ErrForm},
	{strings.Repeat("\xff", 7) + "\x00", api.ErrForm},
	{strings.Repeat("\xff", 8) + "\x00", api.ErrForm},
	{strings.Repeat("\x80", 9), api.ErrForm},
	{strings.Repeat("\xff", 9), api.ErrForm},
	{strings.Repeat("\x80", 9) + "\x00", api.ErrForm},
	{strings.Repeat("\xff", 9) + "\x01", api.ErrForm},
	{strings.Repeat("\xff", 100000), api.ErrForm},
}

func wantNumber(t *testing.T, s string, n, took int, want api.Errno) {
	t.Helper()
	if m, k, e := ReadNumber(s); m != n || k != took || e != want {
		t.Errorf("ReadNumber(%.40q): %d, %d, %d, want %d, %d, %d", s, m, k, e, n, took, want)
	}
}

func wantText(t *testing.T, s string, most int, text string, took int, want api.Errno) {
	t.Helper()
	if x, k, e := ReadText(s, most); x != text || k != took || e != want {
		t.Errorf("ReadText(%.40q, %d): %.40q, %d, %d, want %.40q, %d, %d", s, most, x, k, e, text, took, want)
	}
}

func TestNumberP7(t *testing.T) {
	for _, x := range packedNumbers {
		if s := Number(x.n); s != x.s {
			t.Errorf("Number(%d): %q, want %q", x.n, s, x.s)
		}
	}
	for _, n := range []int{-1, -5, -127, -128, -1 << 40, math.MinInt + 1, math.MinInt} {
		if s := Number(n); s != "\x00" {
			t.Errorf("Number(%d): %q, want that of 0", n, s)
		}
	}
}

func TestReadNumberP7(t *testing.T) {
	for _, x := range packedNumbers {
		for _, behind := range []string{"", "\x00", "\x01", "x", "\x80", "\xff\xff", strings.Repeat("\xff", 20)} {
			wantNumber(t, x.s+behind, x.n, len(x.s), api.OK)
		}
	}
}

func TestReadWrongNumbersP2P7(t *testing.T) {
	for _, x := range wrongNumbers {
		wantNumber(t, x.s, 0, 0, x.want)
	}
	for _, x := range packedNumbers {
		for size := range len(x.s) {
			wantNumber(t, x.s[:size], 0, 0, api.ErrMore)
		}
	}
}

// Numbers around each power of two are held against the library's own form of the same kind.
func TestNumbersOfAllSizesP7(t *testing.T) {
	for bit := range 63 {
		for _, off := range []int{-2, -1, 0, 1, 2} {
			n := 1<<bit + off
			if n < 0 {
				continue
			}
			want := string(binary.AppendUvarint(nil, uint64(n)))
			if s := Number(n); s != want {
				t.Errorf("Number(%d): %q, want %q", n, s, want)
			}
			wantNumber(t, want, n, len(want), api.OK)
		}
	}
	for n := range 1 << 15 {
		s := Number(n)
		wantNumber(t, s, n, len(s), api.OK)
	}
}

// numberByWords is ReadNumber once more, written otherwise: it finds the last byte first.
func numberByWords(s string) (int, int, api.Errno) {
	last := strings.IndexFunc(s, func(r rune) bool { return r < 128 })
	switch {
	case last > 8 || last < 0 && len(s) > 8:
		return 0, 0, api.ErrForm
	case last < 0:
		return 0, 0, api.ErrMore
	case last > 0 && s[last] == 0:
		return 0, 0, api.ErrForm
	}
	n := 0
	for i := last; i >= 0; i-- {
		n = n*128 + int(s[i])%128
	}
	return n, last + 1, api.OK
}

// rowsOf tells all texts of at most most of these bytes.
func rowsOf(letters string, most int) []string {
	all := []string{""}
	for from := 0; most > 0; most-- {
		till := len(all)
		for _, s := range all[from:till] {
			for i := range len(letters) {
				all = append(all, s+letters[i:i+1])
			}
		}
		from = till
	}
	return all
}

// All short rows of bytes, some of them behind a long front, are read as the document says, and
// what is read is written as those same bytes: a number has one form alone.
func TestAllShortRowsP1P7(t *testing.T) {
	for _, front := range []int{0, 5, 6, 7, 8, 9} {
		for _, row := range rowsOf("\x00\x01\x7f\x80\x81\xff", 5) {
			s := strings.Repeat("\x85", front) + row
			n, took, e := numberByWords(s)
			wantNumber(t, s, n, took, e)
			if e == api.OK && Number(n) != s[:took] {
				t.Errorf("Number(%d): %q, but read from %q", n, Number(n), s[:took])
			}
		}
	}
}

func TestTextP7(t *testing.T) {
	for _, x := range []struct{ t, want string }{
		{"", "\x00"},
		{"a", "\x01a"},
		{"abc", "\x03abc"},
		{"\x00", "\x01\x00"},
		{"\xff\xfe", "\x02\xff\xfe"},
		{"\u00e4", "\x02\xc3\xa4"},
		{strings.Repeat("x", 127), "\x7f" + strings.Repeat("x", 127)},
		{strings.Repeat("x", 128), "\x80\x01" + strings.Repeat("x", 128)},
		{strings.Repeat("x", 300), "\xac\x02" + strings.Repeat("x", 300)},
		{strings.Repeat("x", 1<<14), "\x80\x80\x01" + strings.Repeat("x", 1<<14)},
	} {
		if s := Text(x.t); s != x.want {
			t.Errorf("Text(%.40q): %.40q, want %.40q", x.t, s, x.want)
		}
		for _, behind := range []string{"", "\x00", "y", "\xff\xff"} {
			wantText(t, x.want+behind, len(x.t), x.t, len(x.want), api.OK)
			wantText(t, x.want+behind, math.MaxInt, x.t, len(x.want), api.OK)
			wantText(t, x.want+behind, len(x.t)-1, "", 0, api.ErrForm)
		}
		for _, size := range []int{len(x.want) - 1, len(x.want) - len(x.t)} {
			if size < len(x.want) {
				wantText(t, x.want[:size], len(x.t), "", 0, api.ErrMore)
			}
		}
	}
}

func TestReadWrongTextsP2P7(t *testing.T) {
	for _, x := range wrongNumbers {
		for _, most := range []int{math.MinInt, -1, 0, 1024, math.MaxInt} {
			wantText(t, x.s, most, "", 0, x.want)
		}
	}
	for _, x := range []struct {
		s    string
		most int
		want api.Errno
	}{
		{"\x00", -1, api.ErrForm},
		{"\x00", math.MinInt, api.ErrForm},
		{"\x01", 0, api.ErrForm},
		{"\x01a", 0, api.ErrForm},
		{"\x01", 1, api.ErrMore},
		{"\x03ab", 3, api.ErrMore},
		{"\x03ab", 2, api.ErrForm},
		{"\xac\x02ab", 299, api.ErrForm},
		{"\xac\x02ab", 300, api.ErrMore},
		{Number(math.MaxInt), math.MaxInt - 1, api.ErrForm},
		{Number(math.MaxInt), math.MaxInt, api.ErrMore},
		{Number(math.MaxInt) + "abc", math.MaxInt, api.ErrMore},
		{Number(math.MaxInt-8) + "abc", math.MaxInt, api.ErrMore},
	} {
		wantText(t, x.s, x.most, "", 0, x.want)
	}
}

func TestTextsInARowP7(t *testing.T) {
	texts := []string{"", "a", "\x00\x80\xff", strings.Repeat("long ", 100), "", "end"}
	row := ""
	for _, x := range texts {
		row += Text(x)
	}
	for _, x := range texts {
		text, took, e := ReadText(row, api.MaxText)
		if text != x || e != api.OK {
			t.Fatalf("%.40q, %d, want %.40q", text, e, x)
		}
		row = row[took:]
	}
	if row != "" {
		t.Errorf("left: %.40q", row)
	}
}

func TestSumP8(t *testing.T) {
	for _, x := range []struct {
		s    string
		want uint32
	}{
		{"", 0},
		{"\x00", 0xd202ef8d},
		{"\xff", 0xff000000},
		{"a", 0xe8b7be43},
		{"abc", 0x352441c2},
		{"123456789", 0xcbf43926},
		{"\x00\x00\x00\x00", 0x2144df1c},
		{"\xff\xff\xff\xff", 0xffffffff},
		{"The quick brown fox jumps over the lazy dog", 0x414fa339},
	} {
		if n := Sum(x.s); n != x.want {
			t.Errorf("Sum(%q): %x, want %x", x.s, n, x.want)
		}
	}
}

// Each byte, alone and within a text, and texts of many sizes are held against the library.
func TestSumsOfManyTextsP1P8(t *testing.T) {
	var texts []string
	for b := range 256 {
		one := string([]byte{byte(b)})
		texts = append(texts, one, one+one, "x"+one+"y")
	}
	rule, long := uint32(1), []byte{}
	for range 2000 {
		rule = rule*1664525 + 1013904223
		long = append(long, byte(rule>>24))
		texts = append(texts, string(long))
	}
	texts = append(texts, strings.Repeat("\x00", 100000))
	for _, s := range texts {
		if n, want := Sum(s), crc32.ChecksumIEEE([]byte(s)); n != want {
			t.Errorf("Sum(%.40q) of %d bytes: %x, want %x", s, len(s), n, want)
		}
	}
}

// A text that can't be written to can still share memory with another one: its place tells.
func sharesMemory(a, b string) bool {
	if a == "" || b == "" {
		return false
	}
	begin, from := uintptr(unsafe.Pointer(unsafe.StringData(a))), uintptr(unsafe.Pointer(unsafe.StringData(b)))
	return begin < from+uintptr(len(b)) && from < begin+uintptr(len(a))
}

func TestAnswersAreNewMemoryP2(t *testing.T) {
	for _, size := range []int{2, 3, 100, 1000} {
		x := strings.Repeat("z", size)
		packed := Text(x)
		if sharesMemory(packed, x) {
			t.Errorf("Text shares memory, %d bytes", size)
		}
		text, _, e := ReadText(packed, size)
		again, _, _ := ReadText(packed, size)
		if e != api.OK || text != x || sharesMemory(text, packed) || sharesMemory(text, again) {
			t.Errorf("ReadText shares memory, %d bytes, %d", size, e)
		}
	}
}

// An answer hangs on nothing that was asked earlier: asked backwards all are the same.
func TestNothingIsKeptP2(t *testing.T) {
	type answers struct {
		text, read     string
		n, took, whole int
		e, f           api.Errno
		sum            uint32
	}
	ask := func(s string) answers {
		a := answers{text: Text(s), sum: Sum(s)}
		a.n, a.took, a.e = ReadNumber(s)
		a.read, a.whole, a.f = ReadText(s, 2)
		return a
	}
	rows := rowsOf("\x00\x01\x02\x7f\x80\xff", 4)
	first := make([]answers, len(rows))
	for i, s := range rows {
		first[i] = ask(s)
	}
	for i := len(rows) - 1; i >= 0; i-- {
		if a := ask(rows[i]); a != first[i] {
			t.Fatalf("%q: first %+v, then %+v", rows[i], first[i], a)
		}
	}
}
