package record

import (
	"encoding/binary"
	"hash/crc32"
	"math"
	"strings"
	"testing"
	"unsafe"

	"rillbook/api"
	"rillbook/subject"
)

func message(name, header, data string) api.Record {
	return api.Record{Kind: api.KMessage, Seq: 1, Subject: name, Header: header, Data: data}
}

// longest is a subject with as many bytes as one can have.
func longest() string {
	token := strings.Repeat("t", api.MaxToken)
	return strings.Repeat(token+".", api.MaxTokens-1) + token
}

func wantCheck(t *testing.T, r api.Record, want api.Errno) {
	t.Helper()
	if e := Check(r); e != want {
		t.Errorf("Check(%+v): %d, want %d", r, e, want)
	}
	s, e := Encode(r)
	if e != want || (s == "") != (want != api.OK) {
		t.Errorf("Encode(%+v): %q, %d, want %d", r, s, e, want)
	}
}

func wantDecode(t *testing.T, s string, r api.Record, took int, want api.Errno) {
	t.Helper()
	if x, n, e := Decode(s); x != r || n != took || e != want {
		t.Errorf("Decode(%.60q): %+v, %d, %d, want %+v, %d, %d", s, x, n, e, r, took, want)
	}
}

func wantNoRecord(t *testing.T, s string, want api.Errno) {
	t.Helper()
	wantDecode(t, s, api.Record{}, 0, want)
}

func TestKindsAndNumbersP9(t *testing.T) {
	for _, kind := range []int{math.MinInt, -1, 0, 5, 256, 257, 258, 260, math.MaxInt} {
		wantCheck(t, api.Record{Kind: kind, Seq: 1, Subject: "a"}, api.ErrArg)
		wantCheck(t, api.Record{Kind: kind, Seq: 1}, api.ErrArg)
	}
	for _, r := range []api.Record{
		{Kind: api.KMessage, Subject: "a"},
		{Kind: api.KErase},
		{Kind: api.KPurge, Subject: "a.>"},
		{Kind: api.KMark},
	} {
		for _, x := range []struct {
			seq, time int
			want      api.Errno
		}{
			{1, 0, api.OK},
			{2, 1, api.OK},
			{1 << 40, 0, api.OK},
			{1, 1 << 40, api.OK},
			{1 << 40, 1 << 40, api.OK},
			{0, 0, api.ErrArg},
			{-1, 0, api.ErrArg},
			{math.MinInt, 0, api.ErrArg},
			{1<<40 + 1, 0, api.ErrArg},
			{math.MaxInt, 0, api.ErrArg},
			{1, -1, api.ErrArg},
			{1, math.MinInt, api.ErrArg},
			{1, 1<<40 + 1, api.ErrArg},
			{1, math.MaxInt, api.ErrArg},
		} {
			r.Seq, r.Time = x.seq, x.time
			wantCheck(t, r, x.want)
		}
	}
}

func TestMessagesP9(t *testing.T) {
	for _, x := range []struct {
		subject, header, data string
		want                  api.Errno
	}{
		{"a", "", "", api.OK},
		{"a.b", "h", "x", api.OK},
		{longest(), strings.Repeat("h", 128), strings.Repeat("d", 128), api.OK},
		{"a", "\x00\xff\n", "\x80", api.OK},
		{"a", "", strings.Repeat("d", 256), api.OK},
		{"a", strings.Repeat("h", 256), "", api.OK},
		{"a", "h", strings.Repeat("d", 255), api.OK},
		{"a", "", strings.Repeat("d", 257), api.ErrLarge},
		{"a", strings.Repeat("h", 257), "", api.ErrLarge},
		{"a", "h", strings.Repeat("d", 256), api.ErrLarge},
		{"a", strings.Repeat("h", 256), "d", api.ErrLarge},
		{"a", strings.Repeat("h", 129), strings.Repeat("d", 128), api.ErrLarge},
		{"", "", "", api.ErrSyntax},
		{"*", "", "", api.ErrSyntax},
		{"a.>", "", "", api.ErrSyntax},
		{"a..b", "h", "x", api.ErrSyntax},
		{"A", "h", "x", subject.Subject("A")},
		{"a.b.c.d.e.f.g.h.i", "", "", api.ErrLarge},
		{"*", "", strings.Repeat("d", 257), api.ErrSyntax},
	} {
		wantCheck(t, message(x.subject, x.header, x.data), x.want)
	}
}

func TestOtherKindsP9(t *testing.T) {
	for _, x := range []struct {
		subject, header, data string
		purge, bare           api.Errno
	}{
		{"", "", "", api.ErrSyntax, api.OK},
		{"a", "", "", api.OK, api.ErrArg},
		{"*", "", "", api.OK, api.ErrArg},
		{">", "", "", api.OK, api.ErrArg},
		{"a.*.>", "", "", api.OK, api.ErrArg},
		{">.a", "", "", api.ErrSyntax, api.ErrArg},
		{"a.b.c.d.e.f.g.h.>", "", "", api.ErrLarge, api.ErrArg},
		{"a", "h", "", api.ErrArg, api.ErrArg},
		{"a", "", "d", api.ErrArg, api.ErrArg},
		{"a", "h", "d", api.ErrArg, api.ErrArg},
		{"", "h", "", api.ErrSyntax, api.ErrArg},
		{"", "", "d", api.ErrSyntax, api.ErrArg},
		{"", "\x00", "", api.ErrSyntax, api.ErrArg},
		{"a", "", strings.Repeat("d", 257), api.ErrArg, api.ErrArg},
		{"", "", strings.Repeat("d", 257), api.ErrSyntax, api.ErrArg},
	} {
		r := message(x.subject, x.header, x.data)
		r.Kind = api.KPurge
		wantCheck(t, r, x.purge)
		for _, kind := range []int{api.KErase, api.KMark} {
			r.Kind = kind
			wantCheck(t, r, x.bare)
		}
	}
}

// Where several errors apply the first one of the document's is told.
func TestOrderOfErrorsP9(t *testing.T) {
	large := strings.Repeat("d", 257)
	for _, r := range []api.Record{
		{Kind: 5, Seq: 1, Subject: "*", Data: large},
		{Kind: api.KMessage, Seq: 0, Subject: "*", Data: large},
		{Kind: api.KMessage, Seq: 0, Subject: "a", Data: large},
		{Kind: api.KMessage, Seq: 1, Time: -1, Subject: "*"},
		{Kind: api.KMessage, Seq: 1, Time: 1<<40 + 1, Subject: "a", Data: large},
		{Kind: api.KPurge, Seq: 0, Subject: ""},
		{Kind: api.KPurge, Seq: 1, Time: -1, Subject: "a..b"},
	} {
		wantCheck(t, r, api.ErrArg)
	}
	wantCheck(t, api.Record{Kind: api.KMessage, Seq: 1, Subject: "", Data: large}, api.ErrSyntax)
	wantCheck(t, api.Record{Kind: api.KPurge, Seq: 1, Subject: ">.>", Header: "h"}, api.ErrSyntax)
}

// packedText and packedBody write what the document says by the library's means.
func packedText(s string) string {
	return string(binary.AppendUvarint(nil, uint64(len(s)))) + s
}

func packedBody(kind byte, seq, time uint64, texts ...string) string {
	body := []byte{kind}
	body = binary.AppendUvarint(body, seq)
	body = binary.AppendUvarint(body, time)
	for _, text := range texts {
		body = append(body, packedText(text)...)
	}
	return string(body)
}

// sealed is a body as a record has it, whether it is one or not.
func sealed(body string) string {
	sum := crc32.ChecksumIEEE([]byte(body))
	return packedText(body) + string(binary.LittleEndian.AppendUint32(nil, sum))
}

func encodedByWords(r api.Record) string {
	return sealed(packedBody(byte(r.Kind), uint64(r.Seq), uint64(r.Time), r.Subject, r.Header, r.Data))
}

// goodRecords has records of each kind, with the edges of their numbers and texts.
func goodRecords() []api.Record {
	var all []api.Record
	numbers := []int{1, 127, 128, 300, 1<<14 - 1, 1 << 14, 1 << 40}
	for _, seq := range numbers {
		for _, time := range append(numbers, 0) {
			all = append(all,
				api.Record{Kind: api.KMessage, Seq: seq, Time: time, Subject: "a.b", Header: "h", Data: "x"},
				api.Record{Kind: api.KErase, Seq: seq, Time: time},
				api.Record{Kind: api.KPurge, Seq: seq, Time: time, Subject: "a.*.>"},
				api.Record{Kind: api.KMark, Seq: seq, Time: time})
		}
	}
	for _, name := range []string{"a", "a.b.c.d.e.f.g.h", longest()} {
		for _, header := range []int{0, 1, 127, 128, 256} {
			for _, data := range []int{0, 1, 127, 128, 256} {
				if header+data <= 256 {
					all = append(all, message(name, strings.Repeat("\x80", header), strings.Repeat("\x00", data)))
				}
			}
		}
	}
	return all
}

func TestEncodeP10(t *testing.T) {
	for _, x := range []struct {
		r    api.Record
		want string
	}{
		{message("a.b", "", "x"), "\x0a\x01\x01\x00\x03a.b\x00\x01x"},
		{api.Record{Kind: api.KMessage, Seq: 300, Time: 5, Subject: "a.b", Header: "h", Data: "xy"},
			"\x0d\x01\xac\x02\x05\x03a.b\x01h\x02xy"},
		{api.Record{Kind: api.KErase, Seq: 127}, "\x06\x02\x7f\x00\x00\x00\x00"},
		{api.Record{Kind: api.KPurge, Seq: 7, Time: 128, Subject: ">"}, "\x08\x03\x07\x80\x01\x01>\x00\x00"},
		{api.Record{Kind: api.KMark, Seq: 1 << 40, Time: 1}, "\x0b\x04\x80\x80\x80\x80\x80\x20\x01\x00\x00\x00"},
	} {
		sum := crc32.ChecksumIEEE([]byte(x.want[1:]))
		want := x.want + string([]byte{byte(sum), byte(sum >> 8), byte(sum >> 16), byte(sum >> 24)})
		if s, e := Encode(x.r); s != want || e != api.OK {
			t.Errorf("Encode(%+v): %q, %d, want %q", x.r, s, e, want)
		}
	}
	if s, _ := Encode(message("a.b", "", "x")); len(s) != 15 {
		t.Errorf("%d bytes, want 15", len(s))
	}
}

func TestWhatIsEncodedIsDecodedP10(t *testing.T) {
	for _, r := range goodRecords() {
		want := encodedByWords(r)
		if s, e := Encode(r); s != want || e != api.OK {
			t.Errorf("Encode(%+v): %q, %d, want %q", r, s, e, want)
		}
		for _, behind := range []string{"", "\x00", "more", "\xff\xff", want} {
			wantDecode(t, want+behind, r, len(want), api.OK)
		}
	}
}

func TestCutRecordsP2P10(t *testing.T) {
	for _, r := range goodRecords() {
		s := encodedByWords(r)
		for size := range len(s) {
			wantNoRecord(t, s[:size], api.ErrMore)
		}
	}
}

// One bit of a body or of its sum that is another one is always seen by a CRC-32.
func TestChangedBitsP2P10(t *testing.T) {
	for _, r := range []api.Record{
		message("a.b", "h", "xy"),
		message(longest(), "", strings.Repeat("d", 256)),
		{Kind: api.KErase, Seq: 300, Time: 300},
		{Kind: api.KPurge, Seq: 5, Subject: "a.>"},
		{Kind: api.KMark, Seq: 1 << 40},
	} {
		s := encodedByWords(r)
		_, front := binary.Uvarint([]byte(s))
		for at := range len(s) * 8 {
			b := []byte(s)
			b[at/8] ^= 1 << (at % 8)
			if at/8 >= front {
				wantNoRecord(t, string(b), api.ErrForm)
			} else if x, n, e := Decode(string(b)); x != (api.Record{}) || n != 0 || e != api.ErrForm && e != api.ErrMore {
				t.Errorf("Decode(%.60q): %+v, %d, %d", b, x, n, e)
			}
		}
	}
}

func TestFrontsP2P10(t *testing.T) {
	most := strings.Repeat("x", 1024)
	for _, x := range []struct {
		s    string
		want api.Errno
	}{
		{"", api.ErrMore},
		{"\x80", api.ErrMore},
		{"\x80\x00", api.ErrForm},
		{strings.Repeat("\xff", 8), api.ErrMore},
		{strings.Repeat("\xff", 9), api.ErrForm},
		{strings.Repeat("\xff", 8) + "\x7f", api.ErrForm},
		{"\x80\x08", api.ErrMore},
		{"\x81\x08", api.ErrForm},
		{packedText(most), api.ErrMore},
		{packedText(most) + "abc", api.ErrMore},
		{packedText(most) + "abcd", api.ErrForm},
		{sealed(most), api.ErrForm},
		{packedText(most + "x"), api.ErrForm},
		{sealed(most + "x"), api.ErrForm},
		{packedText("none"), api.ErrMore},
		{packedText("none") + "abc", api.ErrMore},
		{packedText("none") + "abcd", api.ErrForm},
		{"\x00", api.ErrMore},
		{"\x00\x00\x00\x00", api.ErrMore},
		{"\x00\x00\x00\x00\x00", api.ErrForm},
		{"\x00\x00\x00\x00\x01", api.ErrForm},
	} {
		wantNoRecord(t, x.s, x.want)
	}
}

// The sum's four bytes are those of the body alone, the lowest first.
func TestOtherSumsP10(t *testing.T) {
	body := packedBody(api.KMessage, 1, 0, "a.b", "", "x")
	front, sum := packedText(body), crc32.ChecksumIEEE([]byte(body))
	wantDecode(t, front+string(binary.LittleEndian.AppendUint32(nil, sum)), message("a.b", "", "x"), 15, api.OK)
	for _, other := range []uint32{0, ^sum, sum + 1, sum ^ 1<<31, crc32.ChecksumIEEE([]byte(front)), crc32.ChecksumIEEE([]byte(body[1:]))} {
		wantNoRecord(t, front+string(binary.LittleEndian.AppendUint32(nil, other)), api.ErrForm)
	}
	wantNoRecord(t, front+string(binary.BigEndian.AppendUint32(nil, sum)), api.ErrForm)
}

func TestBodiesThatAreNoneP2P10(t *testing.T) {
	bodies := []string{
		"",
		"\x01",
		"\x01\x01",
		"\x01\x80\x01",
		"\x01\x80",
		"\x01\x81\x00\x00\x01a\x00\x00",
		"\x01\x01\x80\x00\x01a\x00\x00",
		"\x01\x01\x00\x81\x00a\x00\x00",
		"\x01\x01\x00\x01a\x80\x00\x00",
		"\x01\x01\x00\x01a\x00\x80\x00",
		"\x01\x01\x00\x01a\x00\x01",
		"\x01\x01\x00\x02a\x00\x00",
		"\x01\x01\x00\xff\x7fa\x00\x00",
		"\x01\x01\x00\x01a\x00" + strings.Repeat("\xff", 8) + "\x7f",
		"\x01" + strings.Repeat("\xff", 9) + "\x01\x00\x01a\x00\x00",
		strings.Repeat("\x00", 6),
		packedBody(1, 1, 0, "a", ""),
		packedBody(1, 1, 0, "a", "", "", ""),
		packedBody(1, 1, 0, "a", "", "") + "x",
		packedBody(2, 1, 0, "", "", "") + "\x00",
		packedBody(3, 1, 0, ">", "", "") + packedBody(3, 1, 0, ">", "", ""),
	}
	for _, body := range bodies {
		wantNoRecord(t, sealed(body), api.ErrForm)
		wantNoRecord(t, sealed(body)+"more", api.ErrForm)
	}
}

// What Check has an error of is none, whatever that error is.
func TestRecordsThatCheckRefusesP2P10(t *testing.T) {
	large := strings.Repeat("d", 257)
	for _, body := range []string{
		packedBody(0, 1, 0, "a", "", ""),
		packedBody(5, 1, 0, "", "", ""),
		packedBody(255, 1, 0, "", "", ""),
		packedBody(1, 0, 0, "a", "", ""),
		packedBody(1, 1<<40+1, 0, "a", "", ""),
		packedBody(1, math.MaxInt, 0, "a", "", ""),
		packedBody(1, 1, 1<<40+1, "a", "", ""),
		packedBody(1, 1, math.MaxInt, "a", "", ""),
		packedBody(1, 1, 0, "", "", ""),
		packedBody(1, 1, 0, "*", "", ""),
		packedBody(1, 1, 0, "a.b.c.d.e.f.g.h.i", "", ""),
		packedBody(1, 1, 0, "a", "", large),
		packedBody(1, 1, 0, "a", large, ""),
		packedBody(1, 1, 0, "a", "h", large[1:]),
		packedBody(2, 1, 0, "a", "", ""),
		packedBody(2, 1, 0, "", "h", ""),
		packedBody(2, 0, 0, "", "", ""),
		packedBody(3, 1, 0, "", "", ""),
		packedBody(3, 1, 0, ">.a", "", ""),
		packedBody(3, 1, 0, ">", "h", ""),
		packedBody(3, 1, 0, ">", "", "d"),
		packedBody(4, 1, 0, "", "", "d"),
		packedBody(4, 1<<40+1, 0, "", "", ""),
	} {
		wantNoRecord(t, sealed(body), api.ErrForm)
	}
}

// rowsOf tells all texts of at most most of these bytes.
func rowsOf(letters string, most int) []string {
	all := []string{""}
	for from := 0; most > 0; most-- {
		till := len(all)
		for _, s := range all[from:till] {
			for i := range len(letters) {
				all = append(all, s+letters[i:i+1])
			}
		}
		from = till
	}
	return all
}

// Bytes that are a record are the bytes that it is encoded to: a record has one form alone.
func wantOneForm(t *testing.T, s string) bool {
	t.Helper()
	r, took, e := Decode(s)
	if e != api.OK {
		wantNoRecord(t, s, e)
		return false
	}
	if again, f := Encode(r); f != api.OK || again != s[:took] {
		t.Errorf("Decode(%q): %+v, which is encoded to %q, %d", s[:took], r, again, f)
	}
	return true
}

func TestAllShortBodiesP1P10(t *testing.T) {
	found := 0
	for _, body := range rowsOf("\x00\x01\x02\x03\x04\x80a", 6) {
		if wantOneForm(t, sealed(body)) {
			found++
		}
	}
	// Only kinds 2 and 4 are so short: five of the bytes can be their number, six their time.
	bare := 2 * 5 * 6
	if found != bare {
		t.Errorf("%d records of at most six bytes, want %d", found, bare)
	}
	for _, s := range rowsOf("\x00\x01\x05\x80\xff", 6) {
		wantOneForm(t, s)
	}
}

func TestAnyRecordIsAnsweredP1P2(t *testing.T) {
	numbers := []int{math.MinInt, -1, 0, 1, 1 << 40, 1<<40 + 1, math.MaxInt}
	texts := []string{"", "a", "*", ">", "\xff\x00", strings.Repeat("a.", 100000), strings.Repeat("a", 257)}
	for kind := -1; kind < 6; kind++ {
		for _, seq := range numbers {
			for _, time := range numbers {
				for i, name := range texts {
					r := api.Record{Kind: kind, Seq: seq, Time: time, Subject: name, Header: texts[(i+1)%7], Data: texts[(i+seq&1)%7]}
					s, e := Encode(r)
					if e != Check(r) || e != api.OK && s != "" {
						t.Errorf("%.80q, %d, Check says %d", s, e, Check(r))
					}
				}
			}
		}
	}
	for _, s := range texts {
		wantOneForm(t, s)
	}
}

func place(s string) uintptr { return uintptr(unsafe.Pointer(unsafe.StringData(s))) }

// A text that can't be written to can still share memory with another one: its place tells.
func sharesMemory(a, b string) bool {
	return a != "" && b != "" && place(a) < place(b)+uintptr(len(b)) && place(b) < place(a)+uintptr(len(a))
}

func TestAnswersAreNewMemoryP2(t *testing.T) {
	r := message(longest(), strings.Repeat("h", 100), strings.Repeat("d", 100))
	s, _ := Encode(r)
	again, _ := Encode(r)
	x, _, _ := Decode(s)
	y, _, _ := Decode(s)
	all := []string{s, again}
	for _, record := range []api.Record{r, x, y} {
		all = append(all, record.Subject, record.Header, record.Data)
	}
	for i, a := range all {
		for _, b := range all[:i] {
			if sharesMemory(a, b) {
				t.Errorf("%.20q and %.20q share memory", a, b)
			}
		}
	}
}

// An answer hangs on nothing that was asked earlier: asked backwards all are the same.
func TestNothingIsKeptP2(t *testing.T) {
	type answers struct {
		r    api.Record
		took int
		e    api.Errno
	}
	ask := func(s string) answers {
		r, took, e := Decode(s)
		return answers{r, took, e}
	}
	var rows []string
	for _, r := range goodRecords() {
		s := encodedByWords(r)
		rows = append(rows, s, s[1:], s[:len(s)-1], s+s)
	}
	first := make([]answers, len(rows))
	for i, s := range rows {
		first[i] = ask(s)
	}
	for i := len(rows) - 1; i >= 0; i-- {
		if a := ask(rows[i]); a != first[i] {
			t.Fatalf("%q: first %+v, then %+v", rows[i], first[i], a)
		}
	}
}
