package stream

import (
	"math"
	"math/rand"
	"reflect"
	"slices"
	"strconv"
	"strings"
	"testing"
	"unsafe"

	"rillbook/api"
	"rillbook/record"
	"rillbook/subject"
	"rillbook/vault"
)

const late = 1000

func planOf(change func(p *api.Plan)) api.Plan {
	p := api.Plan{Name: "s", Filters: []string{"a.>", "b"}}
	if change != nil {
		change(&p)
	}
	return p
}

func newStream(t *testing.T, p api.Plan, room, size int) *Stream {
	t.Helper()
	s, e := New(p, room, size)
	if s == nil || e != api.OK {
		t.Fatalf("New(%+v, %d, %d): %v, %d", p, room, size, s, e)
	}
	return s
}

// roomy is a stream whose disk is never full.
func roomy(t *testing.T, change func(p *api.Plan)) *Stream {
	t.Helper()
	return newStream(t, planOf(change), api.MaxRoom, api.MaxBlock)
}

func post(subject string) api.Post {
	return api.Post{Subject: subject, Data: "d", Expect: -1}
}

func postOf(id, subject string) api.Post {
	x := post(subject)
	x.Id = id
	return x
}

func rollOf(roll int, subject string) api.Post {
	x := post(subject)
	x.Roll = roll
	return x
}

// recordOf is the message that a post makes.
func recordOf(seq, now int, x api.Post) api.Record {
	return api.Record{Kind: api.KMessage, Seq: seq, Time: now, Subject: x.Subject, Header: x.Header, Data: x.Data}
}

func eraseOf(seq, now int) api.Record { return api.Record{Kind: api.KErase, Seq: seq, Time: now} }

func purgeOf(filter string, below, now int) api.Record {
	return api.Record{Kind: api.KPurge, Seq: below, Time: now, Subject: filter}
}

func bytesOf(t *testing.T, rs ...api.Record) int {
	t.Helper()
	all := 0
	for _, r := range rs {
		s, e := record.Encode(r)
		if e != api.OK {
			t.Fatalf("Encode(%+v): %d", r, e)
		}
		all += len(s)
	}
	return all
}

func wantErr(t *testing.T, call string, e, want api.Errno) {
	t.Helper()
	if e != want {
		t.Errorf("%s: %d, want %d", call, e, want)
	}
}

func wantPublished(t *testing.T, s *Stream, now int, x api.Post, want int) {
	t.Helper()
	if seq, again, e := s.Publish(now, x); seq != want || again || e != api.OK {
		t.Errorf("Publish(%d, %.200v): %d, %t, %d, want %d", now, x, seq, again, e, want)
	}
}

func wantAgain(t *testing.T, s *Stream, now int, x api.Post, want int) {
	t.Helper()
	was := lookAt(s)
	if seq, again, e := s.Publish(now, x); seq != want || !again || e != api.OK {
		t.Errorf("Publish(%d, %.200v): %d, %t, %d, want %d again", now, x, seq, again, e, want)
	}
	wantLook(t, "Publish of a known id", s, was)
}

// wantError wants an error alone, and doesn't ask for what was written ahead of it.
func wantError(t *testing.T, s *Stream, now int, x api.Post, want api.Errno) {
	t.Helper()
	if seq, again, e := s.Publish(now, x); seq != 0 || again || e != want {
		t.Errorf("Publish(%d, %.200v): %d, %t, %d, want error %d", now, x, seq, again, e, want)
	}
}

// wantRefused wants an error, and that nothing changes.
func wantRefused(t *testing.T, s *Stream, now int, x api.Post, want api.Errno) {
	t.Helper()
	was := lookAt(s)
	wantError(t, s, now, x, want)
	wantLook(t, "a refused Publish", s, was)
}

func seqsOf(rs []api.Record) []int {
	var seqs []int
	for _, r := range rs {
		seqs = append(seqs, r.Seq)
	}
	return seqs
}

func wantSeqs(t *testing.T, s *Stream, want ...int) {
	t.Helper()
	if seqs := seqsOf(s.Store().All()); !slices.Equal(seqs, want) {
		t.Errorf("the messages are %v, want %v", seqs, want)
	}
}

// look is all that a stream tells without being asked for anything, and how full its disk is.
type look struct {
	plan     api.Plan
	all      []api.Record
	subjects []api.Entry
	sums     api.Sums
	used     int
	known    int
}

func lookAt(s *Stream) look {
	subjects, _ := s.Store().Subjects(">")
	return look{s.Plan(), s.Store().All(), subjects, s.Store().Sums(), s.vault.Used(), len(s.known)}
}

func wantLook(t *testing.T, call string, s *Stream, want look) {
	t.Helper()
	if is := lookAt(s); !reflect.DeepEqual(is, want) {
		t.Errorf("%s: the stream is %+v, want %+v", call, is, want)
	}
}

// wantWritten wants that a call writes these records, by how many bytes they have; a record's
// Time is told by them, if it is late.
func wantWritten(t *testing.T, call string, s *Stream, made func(), want ...api.Record) {
	t.Helper()
	was := s.vault.Used()
	made()
	if wrote, size := s.vault.Used()-was, bytesOf(t, want...); wrote != size {
		t.Errorf("%s wrote %d bytes, want %d", call, wrote, size)
	}
}

func TestNewP21(t *testing.T) {
	for _, room := range []int{1, 65536} {
		for _, size := range []int{1, 4096} {
			s := newStream(t, planOf(nil), room, size)
			wantSeqs(t, s)
			if x := s.Store().Sums(); x != (api.Sums{}) {
				t.Errorf("Sums: %+v", x)
			}
		}
	}
	for _, x := range []struct {
		change     func(p *api.Plan)
		room, size int
		want       api.Errno
	}{
		{nil, 0, 100, api.ErrArg},
		{nil, 65537, 100, api.ErrArg},
		{nil, math.MinInt, 100, api.ErrArg},
		{nil, 100, 0, api.ErrArg},
		{nil, 100, 4097, api.ErrArg},
		{nil, 100, math.MaxInt, api.ErrArg},
		{func(p *api.Plan) { p.Name = "" }, 100, 100, api.ErrSyntax},
		{func(p *api.Plan) { p.Filters = nil }, 100, 100, api.ErrArg},
		{func(p *api.Plan) { p.Filters = []string{"a..b"} }, 100, 100, api.ErrSyntax},
		{func(p *api.Plan) { p.Filters = []string{"a.>", "*.b"} }, 100, 100, api.ErrMatch},
		{func(p *api.Plan) { p.Filters = []string{"a", "b", "c", "d", "e"} }, 100, 100, api.ErrLarge},
		{func(p *api.Plan) { p.MaxMsgs = 201 }, 100, 100, api.ErrArg},
		// The plan is asked ahead of the vault.
		{func(p *api.Plan) { p.Name = "S" }, 0, 100, api.ErrSyntax},
		{func(p *api.Plan) { p.Filters = []string{">", "b"} }, 100, 0, api.ErrMatch},
	} {
		if s, e := New(planOf(x.change), x.room, x.size); s != nil || e != x.want {
			t.Errorf("New(%+v, %d, %d): %v, %d, want %d", planOf(x.change), x.room, x.size, s, e, x.want)
		}
	}
}

// The vault has the room and the size that were asked for.
func TestRoomAndSizeP21(t *testing.T) {
	one := bytesOf(t, recordOf(1, 0, post("b")))
	s := newStream(t, planOf(nil), 2*one, 4096)
	wantPublished(t, s, 0, post("b"), 1)
	wantPublished(t, s, 0, post("b"), 2)
	wantRefused(t, s, 0, post("b"), api.ErrFull)
	// A disk has 20 blocks, and each has one record here.
	s = newStream(t, planOf(nil), 65536, 2*one-1)
	for i := range api.MaxFiles {
		wantPublished(t, s, 0, post("b"), i+1)
	}
	wantRefused(t, s, 0, post("b"), api.ErrFull)
}

func TestPlanP2P21(t *testing.T) {
	given := api.Plan{Name: "s-1", Filters: []string{"a.>", "b"}, MaxMsgs: 1, MaxBytes: 200, MaxAge: 3,
		MaxPer: 4, MaxSize: 5, Discard: 1, Keep: 2, Window: 8}
	want := given
	want.Filters = slices.Clone(given.Filters)
	s := newStream(t, given, 100, 100)
	given.Filters[0] = "c"
	for range 2 {
		told := s.Plan()
		if !reflect.DeepEqual(told, want) {
			t.Errorf("Plan: %+v, want %+v", told, want)
		}
		// Spare room is written, too: it may be nobody else's.
		for i := range told.Filters[:cap(told.Filters)] {
			told.Filters[:cap(told.Filters)][i] = "c"
		}
		s.Crash(0)
	}
	wantRefused(t, s, 0, post("c"), api.ErrMatch)
	wantPublished(t, s, 0, post("a.x"), 1)
}

// What is looked at is the vault's store, the new one behind a crash.
func TestStoreP21(t *testing.T) {
	s := roomy(t, nil)
	is := s.Store()
	wantPublished(t, s, 0, post("b"), 1)
	if is != s.Store() || is != s.vault.Store() || is.Sums().Msgs != 1 {
		t.Errorf("Store: %p, then %p", is, s.Store())
	}
	s.Crash(0)
	wantPublished(t, s, 0, post("b"), 2)
	wantSeqs(t, s, 1, 2)
	if s.Store() == is || s.Store() != s.vault.Store() {
		t.Error("Store: not the one that the vault made at the crash")
	}
}

func TestCompactP21(t *testing.T) {
	s := newStream(t, planOf(nil), 1000, 60)
	wantErr(t, "Compact", s.Compact(), api.OK)
	for i := range 5 {
		wantPublished(t, s, 0, post("b"), i+1)
	}
	was := lookAt(s)
	wantErr(t, "Compact", s.Compact(), api.ErrFull)
	wantLook(t, "Compact", s, was)
	for _, seq := range []int{1, 3, 5} {
		wantErr(t, "Erase", s.Erase(seq), api.OK)
	}
	wantErr(t, "Compact", s.Compact(), api.OK)
	if used, want := s.vault.Used(), bytesOf(t, recordOf(2, 0, post("b")), recordOf(4, 0, post("b")), api.Record{Kind: api.KMark, Seq: 5}); used != want {
		t.Errorf("Used behind Compact: %d, want %d", used, want)
	}
	s.Crash(0)
	wantSeqs(t, s, 2, 4)
	wantPublished(t, s, 0, post("b"), 6)
}

// A stop changes nothing of the messages.
func TestCrashP21(t *testing.T) {
	for _, keep := range []int{math.MinInt, -1, 0, 1, 100, math.MaxInt} {
		s := roomy(t, func(p *api.Plan) { p.MaxMsgs = 3 })
		for i := range 5 {
			wantPublished(t, s, 10*i, post("a."+strconv.Itoa(i)), i+1)
			was := lookAt(s)
			s.Crash(keep)
			wantLook(t, "Crash", s, was)
		}
		wantErr(t, "Erase", s.Erase(5), api.OK)
		s.Crash(keep)
		wantSeqs(t, s, 3, 4)
		wantPublished(t, s, 0, post("b"), 6)
	}
}

func TestCrashForgetsIdsP21P22(t *testing.T) {
	s := roomy(t, func(p *api.Plan) { p.Window = 100 })
	wantPublished(t, s, 50, postOf("i", "b"), 1)
	wantPublished(t, s, 50, postOf("j", "b"), 2)
	wantAgain(t, s, 50, postOf("i", "b"), 1)
	// Compact forgets none.
	wantErr(t, "Compact", s.Compact(), api.OK)
	wantAgain(t, s, 50, postOf("i", "b"), 1)
	s.Crash(1000)
	wantPublished(t, s, 40, postOf("i", "b"), 3)
	wantAgain(t, s, 50, postOf("i", "b"), 3)
	wantPublished(t, s, 50, postOf("j", "b"), 4)
}

func TestPublishP22(t *testing.T) {
	token := strings.Repeat("t", api.MaxToken)
	longest := "a." + strings.Repeat(token+".", api.MaxTokens-2) + token
	posts := []api.Post{
		post("b"),
		{Subject: "a.x", Header: "h\x00", Data: "\xff", Expect: 1},
		{Subject: longest, Header: strings.Repeat("h", 100), Data: strings.Repeat("d", 156), Expect: -1},
		{Subject: "a.x", Id: "i", Expect: 3},
	}
	times := []int{5, 0, api.MaxTime, late}
	s := roomy(t, nil)
	var want []api.Record
	for i, x := range posts {
		m := recordOf(i+1, times[i], x)
		wantWritten(t, "Publish", s, func() { wantPublished(t, s, times[i], x, i+1) }, m)
		want = append(want, m)
		if all := s.Store().All(); !slices.Equal(all, want) {
			t.Errorf("All: %+v, want %+v", all, want)
		}
	}
}

// The number is that behind the last one there ever was, also if that message is gone.
func TestTakesP22(t *testing.T) {
	s := roomy(t, nil)
	for of, want := range map[string]bool{"a.x": true, "a.x.y": true, "b": true, "a": false, "b.b": false, "c": false, "": false, "a.*": false, "a.": false} {
		if is := s.Takes(of); is != want {
			t.Errorf("Takes(%q): %t", of, is)
		}
	}
}

func TestNumbersP22(t *testing.T) {
	s := roomy(t, nil)
	wantPublished(t, s, 0, post("b"), 1)
	wantErr(t, "Erase", s.Erase(1), api.OK)
	wantPublished(t, s, 0, post("b"), 2)
	s.Purge(">", api.MaxSeq)
	wantErr(t, "Compact", s.Compact(), api.OK)
	s.Crash(0)
	wantPublished(t, s, 0, post("b"), 3)
	wantSeqs(t, s, 3)
}

// A post with several faults has the error that is told first.
func TestOrderOfErrorsP2P22(t *testing.T) {
	s := roomy(t, func(p *api.Plan) {
		p.MaxSize, p.MaxBytes, p.MaxMsgs, p.Discard, p.Window = 20, 10, 1, api.DiscardNew, 5
	})
	wantPublished(t, s, 9, postOf("i", "b"), 1)
	x := api.Post{Subject: "a..b", Id: strings.Repeat("i", 17), Data: strings.Repeat("d", 21), Expect: -2, Roll: 3}
	wantRefused(t, s, 9, x, api.ErrArg)
	x.Expect = 0
	wantRefused(t, s, 9, x, api.ErrArg)
	x.Roll = 2
	wantRefused(t, s, -1, x, api.ErrArg)
	wantRefused(t, s, 9, x, api.ErrSyntax)
	x.Subject = strings.Repeat("a.", 8) + "a"
	wantRefused(t, s, 9, x, api.ErrLarge)
	x.Subject = "c"
	wantRefused(t, s, 9, x, api.ErrMatch)
	x.Subject = "a.b"
	wantRefused(t, s, 9, x, api.ErrLarge)
	x.Data = x.Data[1:]
	wantRefused(t, s, 9, x, api.ErrLarge)
	x.Id = "i"
	wantAgain(t, s, 9, x, 1)
	x.Id = "j"
	wantRefused(t, s, 9, x, api.ErrExpect)
	x.Expect = 1
	wantRefused(t, s, 9, x, api.ErrFull)
	x.Data = ""
	wantRefused(t, s, 9, x, api.ErrFull)
	wantErr(t, "Erase", s.Erase(1), api.OK)
	wantPublished(t, s, 9, x, 2)
}

func TestWrongPostsP1P22(t *testing.T) {
	s := roomy(t, nil)
	wantPublished(t, s, 0, post("b"), 1)
	for _, now := range []int{math.MinInt, -1, api.MaxTime + 1, math.MaxInt} {
		wantRefused(t, s, now, post("b"), api.ErrArg)
	}
	for _, expect := range []int{math.MinInt, -3, -2} {
		x := post("b")
		x.Expect = expect
		wantRefused(t, s, 0, x, api.ErrArg)
	}
	for _, roll := range []int{math.MinInt, -1, 3, math.MaxInt} {
		wantRefused(t, s, 0, rollOf(roll, "b"), api.ErrArg)
	}
	for _, wrong := range []string{"", ".", "b.", "a.*", "a.>", "a..b", "a. b", "a.\x80", "a." + strings.Repeat("t", 17)} {
		wantRefused(t, s, 0, post(wrong), api.ErrSyntax)
	}
	wantRefused(t, s, 0, post("a.b.c.d.e.f.g.h.i"), api.ErrLarge)
	for _, other := range []string{"a", "b.c", "c", "aa.b"} {
		wantRefused(t, s, 0, post(other), api.ErrMatch)
	}
}

func TestLargePostsP22(t *testing.T) {
	sized := func(header, data int) api.Post {
		return api.Post{Subject: "b", Header: strings.Repeat("h", header), Data: strings.Repeat("d", data), Expect: -1}
	}
	for _, x := range []struct{ size, most int }{{0, 256}, {1, 1}, {10, 10}, {255, 255}, {256, 256}} {
		s := roomy(t, func(p *api.Plan) { p.MaxSize = x.size })
		for _, header := range []int{0, 1, x.most / 2, x.most} {
			wantRefused(t, s, 0, sized(header, x.most+1-header), api.ErrLarge)
			wantPublished(t, s, 0, sized(header, x.most-header), s.Store().Sums().Last+1)
		}
		wantRefused(t, s, 0, sized(x.most+1, 0), api.ErrLarge)
	}
	for _, window := range []int{0, 1} {
		s := roomy(t, func(p *api.Plan) { p.Window = window })
		wantPublished(t, s, 0, postOf(strings.Repeat("\x00", 16), "b"), 1)
		wantRefused(t, s, 0, postOf(strings.Repeat("\x00", 17), "b"), api.ErrLarge)
	}
}

func TestKnownIdsP22(t *testing.T) {
	s := roomy(t, func(p *api.Plan) { p.Window = 5 })
	wantPublished(t, s, 10, postOf("i", "b"), 1)
	wantPublished(t, s, 11, postOf("j", "b"), 2)
	// Also of another subject, and with anything else that is right.
	wantAgain(t, s, 10, postOf("i", "b"), 1)
	wantAgain(t, s, 15, api.Post{Subject: "a.b", Id: "i", Header: "h", Expect: 99, Roll: 2}, 1)
	wantRefused(t, s, 15, postOf("i", "c"), api.ErrMatch)
	// An earlier time is within the window, too.
	wantAgain(t, s, 0, postOf("i", "b"), 1)
	wantAgain(t, s, 16, postOf("j", "b"), 2)
	wantPublished(t, s, 16, postOf("i", "b"), 3)
	wantAgain(t, s, 21, postOf("i", "b"), 3)
	// Of two that are within the window it is the last one.
	wantAgain(t, s, 12, postOf("i", "b"), 3)
	wantPublished(t, s, 22, postOf("i", "b"), 4)
	// That it was asked for again makes it no younger.
	wantAgain(t, s, 27, postOf("i", "b"), 4)
	wantPublished(t, s, 28, postOf("i", "b"), 5)
	// An id is its bytes.
	wantPublished(t, s, 28, postOf("I", "b"), 6)
	wantPublished(t, s, 28, postOf("i\x00", "b"), 7)
}

// The greatest window reaches back ahead of the time 0.
func TestWindowEdgesP22(t *testing.T) {
	s := roomy(t, func(p *api.Plan) { p.Window = api.MaxTicks })
	wantPublished(t, s, 0, postOf("i", "b"), 1)
	wantAgain(t, s, 0, postOf("i", "b"), 1)
	wantAgain(t, s, api.MaxTicks, postOf("i", "b"), 1)
	wantPublished(t, s, api.MaxTicks+1, postOf("i", "b"), 2)
	wantPublished(t, s, api.MaxTime, postOf("i", "b"), 3)
	wantAgain(t, s, api.MaxTime, postOf("i", "b"), 3)
	wantAgain(t, s, 0, postOf("i", "b"), 3)
}

// No id is no id, and without a window none is known.
func TestNoIdsP22(t *testing.T) {
	s := roomy(t, func(p *api.Plan) { p.Window = 5 })
	wantPublished(t, s, 0, post("b"), 1)
	wantPublished(t, s, 0, post("b"), 2)
	s = roomy(t, nil)
	wantPublished(t, s, 0, postOf("i", "b"), 1)
	wantPublished(t, s, 0, postOf("i", "b"), 2)
	if len(s.known) != 0 {
		t.Errorf("%d ids are kept that nobody can ask for", len(s.known))
	}
}

// An id is known also if its message is gone, and isn't, if its message never was.
func TestIdsOfNoMessageP22P23(t *testing.T) {
	s := roomy(t, func(p *api.Plan) { p.Window, p.MaxMsgs, p.MaxAge = 100, 2, 1 })
	wantPublished(t, s, 0, postOf("i", "b"), 1)
	wantErr(t, "Erase", s.Erase(1), api.OK)
	wantAgain(t, s, 0, postOf("i", "b"), 1)
	wantPublished(t, s, 0, postOf("j", "b"), 2)
	s.Purge(">", 9)
	wantAgain(t, s, 0, postOf("j", "b"), 2)
	wantPublished(t, s, 0, postOf("k", "b"), 3)
	s.Age(50)
	wantSeqs(t, s)
	wantAgain(t, s, 50, postOf("k", "b"), 3)
	wantPublished(t, s, 50, postOf("l", "b"), 4)
	wantPublished(t, s, 50, rollOf(2, "b"), 5)
	wantAgain(t, s, 50, postOf("l", "b"), 4)

	x := postOf("m", "b")
	x.Expect = 9
	wantRefused(t, s, 50, x, api.ErrExpect)
	wantRefused(t, s, 50, postOf("m", "c"), api.ErrMatch)
	wantPublished(t, s, 50, postOf("m", "b"), 6)
}

func TestExpectP22(t *testing.T) {
	s := roomy(t, nil)
	x := post("b")
	for _, wrong := range []int{1, 2, math.MaxInt} {
		x.Expect = wrong
		wantRefused(t, s, 0, x, api.ErrExpect)
	}
	x.Expect = 0
	wantPublished(t, s, 0, x, 1)
	wantRefused(t, s, 0, x, api.ErrExpect)
	x.Expect = 1
	wantPublished(t, s, 0, x, 2)
	// It is the last number there ever was, not that of the last message.
	wantErr(t, "Erase", s.Erase(2), api.OK)
	wantRefused(t, s, 0, x, api.ErrExpect)
	x.Expect = 3
	wantRefused(t, s, 0, x, api.ErrExpect)
	x.Expect = 2
	wantPublished(t, s, 0, x, 3)
}

// A post that has more bytes than all messages may have together takes none away.
func TestPostAboveMaxBytesP22(t *testing.T) {
	for _, discard := range []int{api.DiscardOld, api.DiscardNew} {
		s := roomy(t, func(p *api.Plan) { p.MaxBytes, p.MaxPer, p.Discard = 9, 1, discard })
		wantPublished(t, s, 0, api.Post{Subject: "a.x", Header: "hh", Expect: -1}, 1)
		wantRefused(t, s, 0, api.Post{Subject: "a.x", Header: "hhh", Data: "dddd", Expect: -1}, api.ErrFull)
		wantErr(t, "Erase", s.Erase(1), api.OK)
		wantPublished(t, s, 0, api.Post{Subject: "a.x", Header: "hhh", Data: "ddd", Expect: -1}, 2)
	}
}

func TestDiscardNewP22(t *testing.T) {
	s := roomy(t, func(p *api.Plan) { p.Discard, p.MaxPer = api.DiscardNew, 2 })
	wantPublished(t, s, 0, post("b"), 1)
	wantPublished(t, s, 0, post("b"), 2)
	wantRefused(t, s, 0, post("b"), api.ErrFull)
	wantPublished(t, s, 0, post("a.x"), 3)
	wantErr(t, "Erase", s.Erase(1), api.OK)
	wantPublished(t, s, 0, post("b"), 4)
	wantRefused(t, s, 0, post("b"), api.ErrFull)

	s = roomy(t, func(p *api.Plan) { p.Discard, p.MaxMsgs = api.DiscardNew, 2 })
	wantPublished(t, s, 0, post("b"), 1)
	wantPublished(t, s, 0, post("a.x"), 2)
	wantRefused(t, s, 0, post("a.y"), api.ErrFull)
	// What it would roll up makes no room ahead of it.
	wantRefused(t, s, 0, rollOf(2, "b"), api.ErrFull)
	wantErr(t, "Erase", s.Erase(2), api.OK)
	wantPublished(t, s, 0, post("b"), 3)

	s = roomy(t, func(p *api.Plan) { p.Discard, p.MaxBytes = api.DiscardNew, 10 })
	wantPublished(t, s, 0, api.Post{Subject: "a.x", Header: "h", Data: "d", Expect: -1}, 1)
	wantRefused(t, s, 0, api.Post{Subject: "b", Header: "hhh", Data: "dd", Expect: -1}, api.ErrFull)
	wantPublished(t, s, 0, api.Post{Subject: "b", Header: "hh", Data: "dd", Expect: -1}, 2)
	wantRefused(t, s, 0, api.Post{Subject: "b", Expect: -1}, api.ErrFull)
	wantSeqs(t, s, 1, 2)
}

func TestDiscardOldOfASubjectP22(t *testing.T) {
	s := roomy(t, func(p *api.Plan) { p.MaxPer = 2 })
	wantPublished(t, s, 0, post("a.x"), 1)
	wantPublished(t, s, 0, post("b"), 2)
	wantPublished(t, s, 0, post("b"), 3)
	wantWritten(t, "Publish", s, func() { wantPublished(t, s, late, post("b"), 4) },
		eraseOf(2, late), recordOf(4, late, post("b")))
	wantSeqs(t, s, 1, 3, 4)
	// Another subject, though it begins with the same token.
	wantPublished(t, s, 0, post("a.x.y"), 5)
	wantPublished(t, s, 0, post("a.x"), 6)
	wantSeqs(t, s, 1, 3, 4, 5, 6)
	wantPublished(t, s, 0, post("a.x"), 7)
	wantSeqs(t, s, 3, 4, 5, 6, 7)
}

// Of three posts at most two messages stay, if MaxMsgs is 2.
func TestDiscardOldOfMessagesP22(t *testing.T) {
	s := roomy(t, func(p *api.Plan) { p.MaxMsgs = 2 })
	wantPublished(t, s, 5, post("b"), 1)
	wantPublished(t, s, 0, post("a.x"), 2)
	wantWritten(t, "Publish", s, func() { wantPublished(t, s, late, post("a.x"), 3) },
		eraseOf(1, late), recordOf(3, late, post("a.x")))
	wantSeqs(t, s, 2, 3)
	s = roomy(t, func(p *api.Plan) { p.MaxMsgs = 1 })
	for i := range 300 {
		wantPublished(t, s, 0, post("b"), i+1)
		wantSeqs(t, s, i+1)
	}
}

func TestDiscardOldOfBytesP22(t *testing.T) {
	s := roomy(t, func(p *api.Plan) { p.MaxBytes = 10 })
	for i := range 5 {
		wantPublished(t, s, 0, post("b"), i+1)
	}
	wantSeqs(t, s, 1, 2, 3, 4, 5)
	x := api.Post{Subject: "a.x", Header: "h", Data: "d", Expect: -1}
	wantWritten(t, "Publish", s, func() { wantPublished(t, s, late, x, 6) },
		eraseOf(1, late), eraseOf(2, late), eraseOf(3, late), recordOf(6, late, x))
	wantSeqs(t, s, 4, 5, 6)
	x.Data = strings.Repeat("d", 6)
	wantPublished(t, s, 0, x, 7)
	wantSeqs(t, s, 7)
}

// What goes for the subject's sake goes first, and may make room enough.
func TestDiscardOldOfAllP22(t *testing.T) {
	s := roomy(t, func(p *api.Plan) { p.MaxPer, p.MaxMsgs = 1, 3 })
	for i, of := range []string{"a.x", "b", "a.y"} {
		wantPublished(t, s, 0, post(of), i+1)
	}
	wantPublished(t, s, 0, post("b"), 4)
	wantSeqs(t, s, 1, 3, 4)
	wantPublished(t, s, 0, post("a.z"), 5)
	wantSeqs(t, s, 3, 4, 5)

	s = roomy(t, func(p *api.Plan) { p.MaxPer, p.MaxBytes = 2, 8 })
	for i, of := range []string{"a.x", "b", "b"} {
		wantPublished(t, s, 0, post(of), i+1)
	}
	x := api.Post{Subject: "b", Data: "ddd", Expect: -1}
	wantWritten(t, "Publish", s, func() { wantPublished(t, s, late, x, 4) },
		eraseOf(2, late), eraseOf(1, late), recordOf(4, late, x))
	wantSeqs(t, s, 3, 4)
}

// Without bounds of the plan those of the store hold, with either discard.
func TestBoundsOfTheStoreP21P22(t *testing.T) {
	for _, discard := range []int{api.DiscardOld, api.DiscardNew} {
		s := roomy(t, func(p *api.Plan) { p.Discard = discard })
		for i := range api.MaxMsgs {
			wantPublished(t, s, 0, post("b"), i+1)
		}
		wantRefused(t, s, 0, post("b"), api.ErrFull)
		wantRefused(t, s, 0, rollOf(2, "b"), api.ErrFull)
		s = roomy(t, func(p *api.Plan) { p.Discard, p.MaxMsgs = discard, api.MaxMsgs })
		for i := range api.MaxSubjects {
			wantPublished(t, s, 0, post("a."+strconv.Itoa(i)), i+1)
		}
		wantRefused(t, s, 0, post("b"), api.ErrFull)
		wantPublished(t, s, 0, post("a.7"), 101)
	}
	s := roomy(t, func(p *api.Plan) { p.MaxMsgs = api.MaxMsgs })
	for i := range api.MaxMsgs + 1 {
		wantPublished(t, s, 0, post("b"), i+1)
	}
}

func TestRollP22(t *testing.T) {
	fill := func() *Stream {
		s := roomy(t, nil)
		for i, of := range []string{"a.x", "b", "a.x", "a.x.y", "a.z"} {
			wantPublished(t, s, 0, post(of), i+1)
		}
		return s
	}
	s := fill()
	wantPublished(t, s, 0, rollOf(0, "a.x"), 6)
	wantSeqs(t, s, 1, 2, 3, 4, 5, 6)
	s = fill()
	wantWritten(t, "Publish", s, func() { wantPublished(t, s, late, rollOf(1, "a.x"), 6) },
		recordOf(6, late, post("a.x")), purgeOf("a.x", 6, late))
	wantSeqs(t, s, 2, 4, 5, 6)
	s = fill()
	wantWritten(t, "Publish", s, func() { wantPublished(t, s, late, rollOf(2, "a.x"), 6) },
		recordOf(6, late, post("a.x")), purgeOf(">", 6, late))
	wantSeqs(t, s, 6)
	s.Crash(0)
	wantSeqs(t, s, 6)
	// Also where nothing is ahead of it, it is written.
	s = roomy(t, nil)
	wantWritten(t, "Publish", s, func() { wantPublished(t, s, late, rollOf(1, "b"), 1) },
		recordOf(1, late, post("b")), purgeOf("b", 1, late))
	wantSeqs(t, s, 1)
}

// What was written ahead of an error stays: an erase, if there is no room for the message.
func TestNoRoomForTheMessageP21P22(t *testing.T) {
	one, gone := bytesOf(t, recordOf(1, 0, post("b"))), bytesOf(t, eraseOf(1, 0))
	s := newStream(t, planOf(func(p *api.Plan) { p.MaxMsgs, p.Window = 2, 5 }), 2*one+gone, 100)
	wantPublished(t, s, 0, post("b"), 1)
	wantPublished(t, s, 0, post("b"), 2)
	wantError(t, s, 0, postOf("i", "b"), api.ErrFull)
	wantSeqs(t, s, 2)
	s.Crash(0)
	wantSeqs(t, s, 2)
	wantRefused(t, s, 0, postOf("i", "b"), api.ErrFull)
	if len(s.known) != 0 {
		t.Errorf("%d ids are known", len(s.known))
	}
	// There is no room for the first erase.
	s = newStream(t, planOf(func(p *api.Plan) { p.MaxMsgs = 2 }), 2*one+gone-1, 100)
	wantPublished(t, s, 0, post("b"), 1)
	wantPublished(t, s, 0, post("b"), 2)
	wantRefused(t, s, 0, post("b"), api.ErrFull)
	// There is room for the first erase of three.
	s = newStream(t, planOf(func(p *api.Plan) { p.MaxBytes = 6 }), 3*one+2*gone-1, 100)
	for i := range 3 {
		wantPublished(t, s, 0, post("b"), i+1)
	}
	wantError(t, s, 0, api.Post{Subject: "b", Data: "ddddd", Expect: -1}, api.ErrFull)
	wantSeqs(t, s, 2, 3)
	// The same for the subject's sake.
	s = newStream(t, planOf(func(p *api.Plan) { p.MaxPer = 1 }), one+gone, 100)
	wantPublished(t, s, 0, post("b"), 1)
	wantError(t, s, 0, post("b"), api.ErrFull)
	wantSeqs(t, s)
}

// A message that is there stays, and its id is known, if there is no room for what rolls up.
func TestNoRoomForTheRollP21P22(t *testing.T) {
	for roll, filter := range []string{1: "b", 2: ">"} {
		if roll == 0 {
			continue
		}
		room := bytesOf(t, recordOf(1, 0, post("b")), recordOf(2, 0, post("b")), purgeOf(filter, 2, 0))
		x := rollOf(roll, "b")
		x.Id = "i"
		s := newStream(t, planOf(func(p *api.Plan) { p.Window = 5 }), room-1, 100)
		wantPublished(t, s, 0, post("b"), 1)
		wantError(t, s, 0, x, api.ErrFull)
		wantSeqs(t, s, 1, 2)
		wantAgain(t, s, 5, x, 2)
		s = newStream(t, planOf(func(p *api.Plan) { p.Window = 5 }), room, 100)
		wantPublished(t, s, 0, post("b"), 1)
		wantPublished(t, s, 0, x, 2)
		wantSeqs(t, s, 2)
	}
}

func TestEraseP23(t *testing.T) {
	s := roomy(t, nil)
	for i := range 3 {
		wantPublished(t, s, late, post("b"), i+1)
	}
	wantWritten(t, "Erase", s, func() { wantErr(t, "Erase", s.Erase(2), api.OK) }, eraseOf(2, 0))
	wantSeqs(t, s, 1, 3)
	was := lookAt(s)
	for _, seq := range []int{2, 4, api.MaxSeq} {
		wantErr(t, "Erase", s.Erase(seq), api.ErrNone)
	}
	for _, seq := range []int{math.MinInt, -1, 0, api.MaxSeq + 1, math.MaxInt} {
		wantErr(t, "Erase", s.Erase(seq), api.ErrArg)
	}
	wantLook(t, "Erase", s, was)
	s.Crash(0)
	wantSeqs(t, s, 1, 3)

	s = newStream(t, planOf(nil), bytesOf(t, recordOf(1, 0, post("b"))), 100)
	wantPublished(t, s, 0, post("b"), 1)
	wantErr(t, "Erase", s.Erase(1), api.ErrFull)
	wantSeqs(t, s, 1)
}

func wantPurged(t *testing.T, s *Stream, filter string, below, want int, e api.Errno) {
	t.Helper()
	if n, is := s.Purge(filter, below); n != want || is != e {
		t.Errorf("Purge(%q, %d): %d, %d, want %d, %d", filter, below, n, is, want, e)
	}
}

func TestPurgeP23(t *testing.T) {
	s := roomy(t, nil)
	for i, of := range []string{"a.x", "b", "a.y", "a.x.y", "b", "a.x"} {
		wantPublished(t, s, late, post(of), i+1)
	}
	wantWritten(t, "Purge", s, func() { wantPurged(t, s, "a.*", 6, 2, api.OK) }, purgeOf("a.*", 6, 0))
	wantSeqs(t, s, 2, 4, 5, 6)
	// One that takes nothing away is written, too; a filter need not be the plan's.
	wantWritten(t, "Purge", s, func() { wantPurged(t, s, "c", 1, 0, api.OK) }, purgeOf("c", 1, 0))
	wantPurged(t, s, ">", 5, 2, api.OK)
	wantSeqs(t, s, 5, 6)
	was := lookAt(s)
	for _, below := range []int{math.MinInt, -1, 0, api.MaxSeq + 1, math.MaxInt} {
		wantPurged(t, s, ">", below, 0, api.ErrArg)
		// The number is asked ahead of the filter.
		wantPurged(t, s, "a..b", below, 0, api.ErrArg)
	}
	for _, wrong := range []string{"", "a.", ">.a", "a*"} {
		wantPurged(t, s, wrong, 9, 0, api.ErrSyntax)
	}
	wantPurged(t, s, "a.b.c.d.e.f.g.h.>", 9, 0, api.ErrLarge)
	wantLook(t, "Purge", s, was)
	wantPurged(t, s, ">", api.MaxSeq, 2, api.OK)
	s.Crash(0)
	wantSeqs(t, s)

	s = newStream(t, planOf(nil), bytesOf(t, recordOf(1, 0, post("b"))), 100)
	wantPublished(t, s, 0, post("b"), 1)
	wantPurged(t, s, ">", 2, 0, api.ErrFull)
	wantSeqs(t, s, 1)
}

func wantAged(t *testing.T, s *Stream, now, want int, e api.Errno) {
	t.Helper()
	if n, is := s.Age(now); n != want || is != e {
		t.Errorf("Age(%d): %d, %d, want %d, %d", now, n, is, want, e)
	}
}

func TestAgeP23(t *testing.T) {
	s := roomy(t, func(p *api.Plan) { p.MaxAge = 10 })
	wantAged(t, s, 0, 0, api.OK)
	// Times need not rise.
	for i, now := range []int{late + 5, late, late + 9, late, late + 1} {
		wantPublished(t, s, now, post("b"), i+1)
	}
	for _, now := range []int{0, 9, late, late + 10} {
		wantWritten(t, "Age", s, func() { wantAged(t, s, now, 0, api.OK) })
	}
	wantWritten(t, "Age", s, func() { wantAged(t, s, late+11, 2, api.OK) },
		eraseOf(2, late+11), eraseOf(4, late+11))
	wantSeqs(t, s, 1, 3, 5)
	wantAged(t, s, late+15, 1, api.OK)
	wantSeqs(t, s, 1, 3)
	wantAged(t, s, late+16, 1, api.OK)
	was := lookAt(s)
	for _, now := range []int{math.MinInt, -1, api.MaxTime + 1, math.MaxInt} {
		wantAged(t, s, now, 0, api.ErrArg)
	}
	wantLook(t, "Age", s, was)
	wantAged(t, s, api.MaxTime, 1, api.OK)
	wantAged(t, s, api.MaxTime, 0, api.OK)
	s.Crash(0)
	wantSeqs(t, s)
}

func TestNoAgeP23(t *testing.T) {
	s := roomy(t, nil)
	wantPublished(t, s, 0, post("b"), 1)
	wantAged(t, s, api.MaxTime, 0, api.OK)
	wantAged(t, s, -1, 0, api.ErrArg)
	wantAged(t, s, api.MaxTime+1, 0, api.ErrArg)
	wantSeqs(t, s, 1)
	// Publish ages nothing by itself.
	s = roomy(t, func(p *api.Plan) { p.MaxAge = 1 })
	wantPublished(t, s, 0, post("b"), 1)
	wantPublished(t, s, late, post("b"), 2)
	wantSeqs(t, s, 1, 2)
}

// How many went is told, also if there is no room for all erases.
func TestNoRoomForAgeP21P23(t *testing.T) {
	one, gone := bytesOf(t, recordOf(1, 0, post("b"))), bytesOf(t, eraseOf(1, 100))
	for n := range 4 {
		s := newStream(t, planOf(func(p *api.Plan) { p.MaxAge = 1 }), 4*one+(n+1)*gone-1, 100)
		for i := range 4 {
			wantPublished(t, s, 0, post("b"), i+1)
		}
		wantAged(t, s, 100, n, api.ErrFull)
		wantAged(t, s, 100, 0, api.ErrFull)
		s.Crash(0)
		if msgs := s.Store().Sums().Msgs; msgs != 4-n {
			t.Errorf("%d messages are left, want %d", msgs, 4-n)
		}
	}
	s := newStream(t, planOf(func(p *api.Plan) { p.MaxAge = 1 }), 4*one+4*gone, 100)
	for i := range 4 {
		wantPublished(t, s, 0, post("b"), i+1)
	}
	wantAged(t, s, 100, 4, api.OK)
}

// A Stream that New didn't make has no room, and no filters, but answers.
func TestZeroStreamAnswersP1(t *testing.T) {
	calls := []func(s *Stream){
		func(s *Stream) { wantError(t, s, 0, postOf("i", "b"), api.ErrMatch) },
		func(s *Stream) { wantErr(t, "Erase", s.Erase(1), api.ErrNone) },
		func(s *Stream) { wantPurged(t, s, ">", 1, 0, api.ErrFull) },
		func(s *Stream) { wantAged(t, s, 0, 0, api.OK) },
		func(s *Stream) { wantErr(t, "Compact", s.Compact(), api.OK) },
		func(s *Stream) { s.Crash(1) },
		func(s *Stream) { wantSeqs(t, s) },
		func(s *Stream) {
			if p := s.Plan(); !reflect.DeepEqual(p, api.Plan{}) {
				t.Errorf("Plan: %+v", p)
			}
		},
	}
	for _, first := range calls {
		s := &Stream{}
		first(s)
		for _, call := range calls {
			call(s)
		}
	}
}

func place(s string) uintptr { return uintptr(unsafe.Pointer(unsafe.StringData(s))) }

// A text that can't be written to can still share memory with another one: its place tells.
func sharesMemory(a, b string) bool {
	return a != "" && b != "" && place(a) < place(b)+uintptr(len(b)) && place(b) < place(a)+uintptr(len(a))
}

func TestTextsAreNewMemoryP2(t *testing.T) {
	given := api.Plan{Name: strings.Repeat("s", 10), Filters: []string{"a.b.c.*", "d.>"}, Window: 5}
	s := newStream(t, given, 1000, 400)
	x := api.Post{Subject: "a.b.c.d", Id: strings.Repeat("i", 9), Header: strings.Repeat("h", 40), Data: strings.Repeat("d", 40), Expect: -1}
	wantPublished(t, s, 0, x, 1)
	texts := []string{given.Name, given.Filters[0], given.Filters[1], x.Subject, x.Id, x.Header, x.Data}
	for id := range s.known {
		texts = append(texts, id)
	}
	texts = append(texts, s.plan.Name, s.plan.Filters[0], s.plan.Filters[1])
	for range 2 {
		p := s.Plan()
		r, _ := s.Store().Get(1)
		texts = append(texts, p.Name, p.Filters[0], p.Filters[1], r.Subject, r.Header, r.Data)
	}
	for i, a := range texts {
		for _, b := range texts[:i] {
			if sharesMemory(a, b) {
				t.Errorf("%.20q and %.20q share memory", a, b)
			}
		}
	}
}

// plainStream is a stream told by the document's words: it goes through all messages, and through
// all that was ever published with an id.
type plainStream struct {
	plan  api.Plan
	vault *vault.Vault
	ids   []plainId
}

type plainId struct {
	id        string
	seq, time int
}

func (p *plainStream) matches(of string) bool {
	return slices.ContainsFunc(p.plan.Filters, func(f string) bool {
		is, _ := subject.Match(f, of)
		return is
	})
}

func (p *plainStream) of(filter string) []api.Record {
	return slices.DeleteFunc(p.vault.Store().All(), func(m api.Record) bool {
		is, _ := subject.Match(filter, m.Subject)
		return !is
	})
}

func (p *plainStream) bytes() int {
	all := 0
	for _, m := range p.of(">") {
		all += len(m.Subject + m.Header + m.Data)
	}
	return all
}

func (p *plainStream) refuses(now int, x api.Post) api.Errno {
	size := len(x.Header + x.Data)
	switch e := subject.Subject(x.Subject); {
	case now < 0, now > 1<<40, x.Expect < -1, x.Roll < 0, x.Roll > 2:
		return api.ErrArg
	case e != api.OK:
		return e
	case !p.matches(x.Subject):
		return api.ErrMatch
	case size > 256, p.plan.MaxSize > 0 && size > p.plan.MaxSize, len(x.Id) > 16:
		return api.ErrLarge
	}
	return api.OK
}

func (p *plainStream) perFull(x api.Post) bool {
	return p.plan.MaxPer > 0 && len(p.of(x.Subject)) == p.plan.MaxPer
}

func (p *plainStream) full(x api.Post) bool {
	return p.plan.MaxMsgs > 0 && len(p.of(">")) == p.plan.MaxMsgs ||
		p.plan.MaxBytes > 0 && p.bytes()+len(x.Subject+x.Header+x.Data) > p.plan.MaxBytes
}

// next is the next record that is to be written: it hangs on what those ahead of it did.
func (p *plainStream) next(now int, x api.Post) api.Record {
	switch {
	case p.perFull(x):
		return eraseOf(p.of(x.Subject)[0].Seq, now)
	case p.full(x):
		return eraseOf(p.of(">")[0].Seq, now)
	}
	return recordOf(p.vault.Store().Sums().Last+1, now, x)
}

func (p *plainStream) publish(now int, x api.Post) (int, bool, api.Errno) {
	if e := p.refuses(now, x); e != api.OK {
		return 0, false, e
	}
	for _, i := range slices.Backward(p.ids) {
		if x.Id != "" && p.plan.Window > 0 && i.id == x.Id && i.time >= now-p.plan.Window {
			return i.seq, true, api.OK
		}
	}
	if x.Expect >= 0 && x.Expect != p.vault.Store().Sums().Last {
		return 0, false, api.ErrExpect
	}
	if p.plan.MaxBytes > 0 && len(x.Subject+x.Header+x.Data) > p.plan.MaxBytes {
		return 0, false, api.ErrFull
	}
	if p.plan.Discard == api.DiscardNew && (p.perFull(x) || p.full(x)) {
		return 0, false, api.ErrFull
	}
	for {
		r := p.next(now, x)
		if e := p.vault.Do(r); e != api.OK {
			return 0, false, e
		}
		if r.Kind == api.KMessage {
			p.ids = append(p.ids, plainId{x.Id, r.Seq, now})
			return p.rolled(now, r.Seq, x)
		}
	}
}

func (p *plainStream) rolled(now, seq int, x api.Post) (int, bool, api.Errno) {
	if x.Roll > 0 {
		if e := p.vault.Do(purgeOf([]string{1: x.Subject, 2: ">"}[x.Roll], seq, now)); e != api.OK {
			return 0, false, e
		}
	}
	return seq, false, api.OK
}

func (p *plainStream) purge(filter string, below int) (int, api.Errno) {
	went := 0
	for _, m := range p.of(filter) {
		if m.Seq < below {
			went++
		}
	}
	if e := p.vault.Do(purgeOf(filter, below, 0)); e != api.OK {
		return 0, e
	}
	return went, api.OK
}

func (p *plainStream) age(now int) (int, api.Errno) {
	if now < 0 || now > 1<<40 {
		return 0, api.ErrArg
	}
	went := 0
	for p.plan.MaxAge > 0 {
		all := p.of(">")
		at := slices.IndexFunc(all, func(m api.Record) bool { return m.Time < now-p.plan.MaxAge })
		if at < 0 {
			break
		}
		if e := p.vault.Do(eraseOf(all[at].Seq, now)); e != api.OK {
			return went, e
		}
		went++
	}
	return went, api.OK
}

// oneOf picks 0, for no bound, or one of some others.
func oneOf(source *rand.Rand, others ...int) int {
	return append(others, make([]int, len(others))...)[source.Intn(2*len(others))]
}

func somePlan(source *rand.Rand) api.Plan {
	return api.Plan{
		Name:     "s",
		Filters:  []string{"a.>", "b", "c.*"},
		MaxMsgs:  oneOf(source, 1, 3, 8),
		MaxBytes: oneOf(source, 15, 40, 100),
		MaxAge:   oneOf(source, 3, 20),
		MaxPer:   oneOf(source, 1, 2, 4),
		MaxSize:  oneOf(source, 8, 12),
		Discard:  source.Intn(2),
		Window:   oneOf(source, 1, 10, 40),
	}
}

func somePost(source *rand.Rand, last int) api.Post {
	subjects := []string{"a.x", "a.x", "a.x.y", "a.y", "b", "b", "c.x", "c.x.y", "a..b"}
	ids := []string{"", "", "i", "j", "k", "l", strings.Repeat("i", 17)}
	text := strings.Repeat("d", source.Intn(20))
	half := source.Intn(len(text) + 1)
	x := api.Post{Subject: subjects[source.Intn(len(subjects))], Id: ids[source.Intn(len(ids))], Header: text[:half], Data: text[half:], Expect: -1}
	switch source.Intn(12) {
	case 0, 1:
		x.Expect = last
	case 2:
		x.Expect = last - 3 + source.Intn(5)
	case 3:
		x.Roll = source.Intn(5) - 1
	}
	return x
}

// step does anything with a stream, and the same with a plain one, and tells what was answered.
func step(t *testing.T, source *rand.Rand, now int, s *Stream, p *plainStream) (again bool, e api.Errno) {
	t.Helper()
	last := p.vault.Store().Sums().Last
	var call string
	var is, want [3]any
	tell := func(n int, again bool, e api.Errno) [3]any { return [3]any{n, again, e} }
	alone := func(e api.Errno) [3]any { return tell(0, false, e) }
	counted := func(n int, e api.Errno) [3]any { return tell(n, false, e) }
	switch source.Intn(40) {
	case 0:
		s.Crash(source.Intn(20) - 1)
		p.vault.Crash(0)
		p.ids = nil
		return false, api.OK
	case 1, 2, 3:
		call, is, want = "Compact", alone(s.Compact()), alone(p.vault.Compact())
	case 4, 5, 6:
		seq := last - source.Intn(12)
		call, is, want = "Erase", alone(s.Erase(seq)), alone(p.vault.Do(eraseOf(seq, 0)))
	case 7:
		filter, below := []string{">", "a.*", "*.x", "b", ">.a"}[source.Intn(5)], last-source.Intn(6)
		call, is = "Purge", counted(s.Purge(filter, below))
		want = counted(p.purge(filter, below))
	case 8, 9, 10:
		call, is, want = "Age", counted(s.Age(now)), counted(p.age(now))
	default:
		x := somePost(source, last)
		call, is, want = "Publish", tell(s.Publish(now, x)), tell(p.publish(now, x))
	}
	if is != want {
		t.Errorf("%s at %d: %v, want %v", call, now, is, want)
	}
	return is[1].(bool), is[2].(api.Errno)
}

func wantSame(t *testing.T, s *Stream, p *plainStream) {
	t.Helper()
	is, want := s.Store(), p.vault.Store()
	if !slices.Equal(is.All(), want.All()) || is.Sums() != want.Sums() || s.vault.Used() != p.vault.Used() {
		t.Errorf("the stream has %+v, %d bytes, want %+v, %d bytes", is.All(), s.vault.Used(), want.All(), p.vault.Used())
	}
	if plan := s.Plan(); !reflect.DeepEqual(plan, p.plan) {
		t.Errorf("the plan is %+v, want %+v", plan, p.plan)
	}
}

func wantWithinBounds(t *testing.T, s *Stream) {
	t.Helper()
	p, sums := s.Plan(), s.Store().Sums()
	if p.MaxMsgs > 0 && sums.Msgs > p.MaxMsgs || p.MaxBytes > 0 && sums.Bytes > p.MaxBytes {
		t.Errorf("%+v is more than %+v allows", sums, p)
	}
	counts, _ := s.Store().Subjects(">")
	for _, c := range counts {
		if p.MaxPer > 0 && c.N > p.MaxPer {
			t.Errorf("%+v is more than %+v allows", c, p)
		}
	}
}

// Two streams are used in turn, so that it is seen that neither changes the other.
func TestManyCallsP2P21P22P23(t *testing.T) {
	source := rand.New(rand.NewSource(10))
	answered, agains := map[api.Errno]int{}, 0
	for range 150 {
		var streams [2]*Stream
		var plain [2]*plainStream
		for i := range streams {
			room, size := []int{150, 600, 2000, 65536}[source.Intn(4)], []int{60, 400, 4096}[source.Intn(3)]
			p := somePlan(source)
			streams[i] = newStream(t, p, room, size)
			v, _ := vault.New(room, size)
			plain[i] = &plainStream{plan: p, vault: v}
		}
		now := 0
		for n := range 150 {
			// Time is told from outside: it may go back, too.
			now += source.Intn(6) - 1
			i := source.Intn(2)
			again, e := step(t, source, now, streams[i], plain[i])
			answered[e]++
			if again {
				agains++
			}
			for j, p := range plain {
				wantSame(t, streams[j], p)
				wantWithinBounds(t, streams[j])
			}
			if t.Failed() {
				t.Fatalf("step %d of %+v", n, plain[i].plan)
			}
		}
	}
	for _, e := range []api.Errno{api.OK, api.ErrArg, api.ErrLarge, api.ErrSyntax, api.ErrNone, api.ErrFull, api.ErrExpect, api.ErrMatch} {
		if answered[e] < 30 {
			t.Errorf("error %d was answered %d times only", e, answered[e])
		}
	}
	if agains < 100 {
		t.Errorf("an id was known %d times only", agains)
	}
}
