package store

import (
	"maps"
	"math"
	"math/rand"
	"slices"
	"strconv"
	"strings"
	"testing"
	"unsafe"

	"rillbook/api"
	"rillbook/record"
	"rillbook/subject"
)

func message(seq int, subject string) api.Record {
	return api.Record{Kind: api.KMessage, Seq: seq, Subject: subject}
}

func eraseOf(seq int) api.Record { return api.Record{Kind: api.KErase, Seq: seq} }

func purgeOf(filter string, below int) api.Record {
	return api.Record{Kind: api.KPurge, Seq: below, Subject: filter}
}

func markOf(seq int) api.Record { return api.Record{Kind: api.KMark, Seq: seq} }

// do applies records that are taken.
func do(t *testing.T, s *Store, rs ...api.Record) {
	t.Helper()
	for _, r := range rs {
		if e := s.Apply(r); e != api.OK {
			t.Fatalf("Apply(%+v): %d", r, e)
		}
	}
}

func made(t *testing.T, rs ...api.Record) *Store {
	t.Helper()
	s := New()
	do(t, s, rs...)
	return s
}

// look is all that a store tells without being asked for anything.
type look struct {
	all      []api.Record
	subjects []api.Entry
	sums     api.Sums
}

func lookAt(s *Store) look {
	subjects, _ := s.Subjects(">")
	return look{s.All(), subjects, s.Sums()}
}

func (l look) same(m look) bool {
	return slices.Equal(l.all, m.all) && slices.Equal(l.subjects, m.subjects) && l.sums == m.sums
}

// wantRefused wants the same error of Try and Apply, and that nothing changes.
func wantRefused(t *testing.T, s *Store, r api.Record, want api.Errno) {
	t.Helper()
	was := lookAt(s)
	if e := s.Try(r); e != want {
		t.Errorf("Try(%.200v): %d, want %d", r, e, want)
	}
	if e := s.Apply(r); e != want {
		t.Errorf("Apply(%.200v): %d, want %d", r, e, want)
	}
	if is := lookAt(s); !is.same(was) {
		t.Errorf("%.200v changed the store: %+v, want %+v", r, is, was)
	}
}

func seqsOf(rs []api.Record) []int {
	var seqs []int
	for _, r := range rs {
		seqs = append(seqs, r.Seq)
	}
	return seqs
}

func wantSeqs(t *testing.T, s *Store, want ...int) {
	t.Helper()
	if seqs := seqsOf(s.All()); !slices.Equal(seqs, want) {
		t.Errorf("All: %v, want %v", seqs, want)
	}
}

func wantSums(t *testing.T, s *Store, want api.Sums) {
	t.Helper()
	if x := s.Sums(); x != want {
		t.Errorf("Sums: %+v, want %+v", x, want)
	}
}

func wantLast(t *testing.T, s *Store, want int) {
	t.Helper()
	if last := s.Sums().Last; last != want {
		t.Errorf("the last number: %d, want %d", last, want)
	}
}

func wantRecord(t *testing.T, call string, r api.Record, e api.Errno, want api.Record, wantErr api.Errno) {
	t.Helper()
	if r != want || e != wantErr {
		t.Errorf("%s: %+v, %d, want %+v, %d", call, r, e, want, wantErr)
	}
}

// wantSeq wants a message of that number; of 0: that there is none.
func wantSeq(t *testing.T, call string, r api.Record, e api.Errno, want int) {
	t.Helper()
	if want == 0 {
		wantRecord(t, call, r, e, api.Record{}, api.ErrNone)
	} else if r.Seq != want || e != api.OK {
		t.Errorf("%s: %+v, %d, want message %d", call, r, e, want)
	}
}

func wantGone(t *testing.T, s *Store, seqs ...int) {
	t.Helper()
	for _, seq := range seqs {
		r, e := s.Get(seq)
		wantRecord(t, "Get", r, e, api.Record{}, api.ErrNone)
	}
}

func wantSubjects(t *testing.T, s *Store, filter string, want ...api.Entry) {
	t.Helper()
	found, e := s.Subjects(filter)
	if e != api.OK || !slices.Equal(found, want) {
		t.Errorf("Subjects(%q): %v, %d, want %v", filter, found, e, want)
	}
}

func TestEmptyP15P16(t *testing.T) {
	s := New()
	wantSeqs(t, s)
	wantSums(t, s, api.Sums{})
	wantSubjects(t, s, ">")
	wantGone(t, s, math.MinInt, -1, 0, 1, math.MaxInt)
	r, e := s.Last(">")
	wantSeq(t, "Last", r, e, 0)
	r, e = s.Next(">", 0)
	wantSeq(t, "Next", r, e, 0)
	wantRefused(t, s, eraseOf(1), api.ErrNone)
	do(t, s, purgeOf(">", api.MaxSeq))
	wantSums(t, s, api.Sums{})
}

func TestMessagesP15(t *testing.T) {
	long := strings.Repeat("tttttttttttttttt.", api.MaxTokens-1) + "tttttttttttttttt"
	all := []api.Record{
		{Kind: api.KMessage, Seq: 2, Time: 9, Subject: "a.b", Header: "h", Data: "data"},
		{Kind: api.KMessage, Seq: 3, Time: 0, Subject: "a.b"},
		{Kind: api.KMessage, Seq: 70, Time: api.MaxTime, Subject: "c", Header: "\x00\xff", Data: ""},
		{Kind: api.KMessage, Seq: api.MaxSeq, Time: 5, Subject: long, Header: strings.Repeat("h", 56), Data: strings.Repeat("d", 200)},
	}
	s := New()
	for i, r := range all {
		if e := s.Apply(r); e != api.OK {
			t.Fatalf("Apply(%+v): %d", r, e)
		}
		if is := s.All(); !slices.Equal(is, all[:i+1]) {
			t.Errorf("All: %+v, want %+v", is, all[:i+1])
		}
		wantLast(t, s, r.Seq)
	}
	for _, r := range all {
		is, e := s.Get(r.Seq)
		wantRecord(t, "Get", is, e, r, api.OK)
	}
}

// Behind the greatest number there is none any more.
func TestNumbersRiseP15(t *testing.T) {
	s := made(t, message(5, "a"))
	for _, seq := range []int{1, 4, 5} {
		wantRefused(t, s, message(seq, "a"), api.ErrExpect)
	}
	do(t, s, message(6, "a"), message(8, "a"))
	wantRefused(t, s, message(7, "a"), api.ErrExpect)
	do(t, s, eraseOf(8), purgeOf(">", 100))
	for _, seq := range []int{1, 6, 8} {
		wantRefused(t, s, message(seq, "a"), api.ErrExpect)
	}
	do(t, s, message(9, "a"), message(api.MaxSeq, "a"))
	wantRefused(t, s, message(api.MaxSeq, "a"), api.ErrExpect)
	wantSeqs(t, s, 9, api.MaxSeq)
}

func TestMostMessagesP15(t *testing.T) {
	s := New()
	for i := range api.MaxMsgs {
		do(t, s, message(i+1, "s."+strconv.Itoa(i%7)))
	}
	wantSums(t, s, api.Sums{Msgs: 200, Bytes: 600, First: 1, Last: 200})
	wantRefused(t, s, message(201, "s.0"), api.ErrFull)
	wantRefused(t, s, message(201, "t"), api.ErrFull)
	wantRefused(t, s, message(api.MaxSeq, "t"), api.ErrFull)
	do(t, s, markOf(210))
	wantRefused(t, s, message(211, "t"), api.ErrFull)
	do(t, s, eraseOf(100), message(211, "t"))
	wantRefused(t, s, message(212, "t"), api.ErrFull)
	do(t, s, purgeOf("s.*", 3), message(212, "t"), message(213, "s.1"))
	wantRefused(t, s, message(214, "t"), api.ErrFull)
	wantSums(t, s, api.Sums{Msgs: 200, Bytes: 596, First: 3, Last: 213})
}

func TestMostSubjectsP15(t *testing.T) {
	s := New()
	for i := range api.MaxSubjects {
		do(t, s, message(i+1, "s."+strconv.Itoa(i)))
	}
	for _, other := range []string{"a", "s", "s.100", "s.50.a", "z"} {
		wantRefused(t, s, message(101, other), api.ErrFull)
	}
	// One of the hundred is taken again, and goes only with its last message.
	do(t, s, message(101, "s.50"), message(102, "s.0"), eraseOf(1))
	wantRefused(t, s, message(103, "z"), api.ErrFull)
	do(t, s, eraseOf(102), message(103, "z"))
	wantRefused(t, s, message(104, "s.0"), api.ErrFull)
	wantSubjects(t, s, "s.0")
	wantSubjects(t, s, "s.50", api.Entry{Subject: "s.50", N: 2})

	do(t, s, purgeOf("s.50", 101))
	wantRefused(t, s, message(104, "s.0"), api.ErrFull)
	do(t, s, purgeOf("s.50", 102), message(104, "s.0"))
	wantRefused(t, s, message(105, "s.50"), api.ErrFull)
	do(t, s, purgeOf(">", 105))
	for i := range api.MaxSubjects {
		do(t, s, message(i+105, "t."+strconv.Itoa(i)))
	}
	wantRefused(t, s, message(205, "u"), api.ErrFull)
}

func TestEraseP15(t *testing.T) {
	s := made(t, message(2, "a"), message(4, "b"), message(5, "a"), message(9, "c"))
	for _, seq := range []int{1, 3, 6, 8, 10, api.MaxSeq} {
		wantRefused(t, s, eraseOf(seq), api.ErrNone)
	}
	do(t, s, eraseOf(4))
	wantSeqs(t, s, 2, 5, 9)
	wantGone(t, s, 4)
	wantRefused(t, s, eraseOf(4), api.ErrNone)
	wantSubjects(t, s, ">", api.Entry{Subject: "a", N: 2}, api.Entry{Subject: "c", N: 1})
	do(t, s, eraseOf(2))
	wantSeqs(t, s, 5, 9)
	wantSubjects(t, s, ">", api.Entry{Subject: "a", N: 1}, api.Entry{Subject: "c", N: 1})
	do(t, s, eraseOf(9))
	wantSums(t, s, api.Sums{Msgs: 1, Bytes: 1, First: 5, Last: 9})
	// The time of a record that isn't a message says nothing.
	do(t, s, api.Record{Kind: api.KErase, Seq: 5, Time: api.MaxTime})
	wantSums(t, s, api.Sums{Last: 9})
	wantSubjects(t, s, ">")
}

func TestPurgeP15(t *testing.T) {
	begin := []api.Record{
		message(2, "a.b"), message(3, "a.c"), message(5, "b"), message(7, "a.b"), message(8, "a.b.c"), message(9, "a"),
	}
	for _, x := range []struct {
		filter string
		below  int
		want   []int
	}{
		{">", 1, []int{2, 3, 5, 7, 8, 9}},
		{">", 2, []int{2, 3, 5, 7, 8, 9}},
		{">", 3, []int{3, 5, 7, 8, 9}},
		{">", 4, []int{5, 7, 8, 9}},
		{">", 7, []int{7, 8, 9}},
		{">", 9, []int{9}},
		{">", 10, nil},
		{">", api.MaxSeq, nil},
		{"a.b", 7, []int{3, 5, 7, 8, 9}},
		{"a.b", 8, []int{3, 5, 8, 9}},
		{"a.b", api.MaxSeq, []int{3, 5, 8, 9}},
		{"a.*", 8, []int{5, 8, 9}},
		{"a.>", 9, []int{5, 9}},
		{"*", 6, []int{2, 3, 7, 8, 9}},
		{"*", 100, []int{2, 3, 7, 8}},
		{"c", 100, []int{2, 3, 5, 7, 8, 9}},
		{"*.*.*.*", 100, []int{2, 3, 5, 7, 8, 9}},
	} {
		s := made(t, begin...)
		purge := purgeOf(x.filter, x.below)
		if e := s.Try(purge); e != api.OK {
			t.Errorf("Try(%+v): %d", purge, e)
		}
		wantSeqs(t, s, 2, 3, 5, 7, 8, 9)
		do(t, s, purge)
		wantSeqs(t, s, x.want...)
		wantLast(t, s, 9)
		do(t, s, purge)
		wantSeqs(t, s, x.want...)
		left := 0
		found, _ := s.Subjects(">")
		for _, entry := range found {
			left += entry.N
		}
		if left != len(x.want) {
			t.Errorf("behind %+v the subjects are %v", purge, found)
		}
		do(t, s, message(10, "z"))
		wantSeqs(t, s, append(slices.Clone(x.want), 10)...)
	}
}

func TestMarkP15(t *testing.T) {
	s := made(t, markOf(4))
	wantSums(t, s, api.Sums{Last: 4})
	wantRefused(t, s, message(4, "a"), api.ErrExpect)
	do(t, s, message(5, "a"))
	for _, seq := range []int{1, 4, 5} {
		do(t, s, markOf(seq))
		wantLast(t, s, 5)
	}
	do(t, s, api.Record{Kind: api.KMark, Seq: 6, Time: 3})
	wantLast(t, s, 6)
	wantSeqs(t, s, 5)
	wantGone(t, s, 6)
	do(t, s, markOf(api.MaxSeq))
	wantSums(t, s, api.Sums{Msgs: 1, Bytes: 1, First: 5, Last: api.MaxSeq})
	wantRefused(t, s, message(api.MaxSeq, "a"), api.ErrExpect)
}

// wrongRecords has one for each of Check's errors.
var wrongRecords = []api.Record{
	{},
	{Kind: 0, Seq: 9},
	{Kind: 5, Seq: 9},
	{Kind: -1, Seq: 9},
	{Kind: math.MaxInt, Seq: math.MinInt, Time: -1},
	{Kind: api.KMessage, Seq: 0, Subject: "a"},
	{Kind: api.KMessage, Seq: api.MaxSeq + 1, Subject: "a"},
	{Kind: api.KMessage, Seq: 9, Time: -1, Subject: "a"},
	{Kind: api.KMessage, Seq: 9, Time: api.MaxTime + 1, Subject: "a"},
	{Kind: api.KMessage, Seq: 9},
	{Kind: api.KMessage, Seq: 9, Subject: "a.*"},
	{Kind: api.KMessage, Seq: 9, Subject: "a.b.c.d.e.f.g.h.i"},
	{Kind: api.KMessage, Seq: 9, Subject: "a", Data: strings.Repeat("d", 257)},
	{Kind: api.KMessage, Seq: 9, Subject: "a", Header: strings.Repeat("h", 200), Data: strings.Repeat("d", 57)},
	{Kind: api.KErase, Seq: 0},
	{Kind: api.KErase, Seq: 3, Subject: "a"},
	{Kind: api.KErase, Seq: 3, Header: "h"},
	{Kind: api.KErase, Seq: 3, Data: "d"},
	{Kind: api.KErase, Seq: 3, Time: -1},
	{Kind: api.KPurge, Seq: 0, Subject: ">"},
	{Kind: api.KPurge, Seq: api.MaxSeq + 1, Subject: ">"},
	{Kind: api.KPurge, Seq: 9},
	{Kind: api.KPurge, Seq: 9, Subject: ">.a"},
	{Kind: api.KPurge, Seq: 9, Subject: "a.b.c.d.e.f.g.h.>"},
	{Kind: api.KPurge, Seq: 9, Subject: ">", Header: "h"},
	{Kind: api.KPurge, Seq: 9, Subject: ">", Data: "d"},
	{Kind: api.KMark, Seq: 0},
	{Kind: api.KMark, Seq: api.MaxSeq + 1},
	{Kind: api.KMark, Seq: 9, Subject: "a"},
	{Kind: api.KMark, Seq: 9, Time: api.MaxTime + 1},
}

func TestWrongRecordsP1P2P15(t *testing.T) {
	for _, s := range []*Store{New(), made(t, message(3, "a"), message(4, "a.b"))} {
		for _, r := range wrongRecords {
			want := record.Check(r)
			if want == api.OK {
				t.Fatalf("%+v is a record", r)
			}
			wantRefused(t, s, r, want)
		}
	}
}

// Where several errors apply the first one of the document's is told.
func TestOrderOfErrorsP2P15(t *testing.T) {
	full := New()
	for i := range api.MaxMsgs {
		do(t, full, message(i+10, "s."+strconv.Itoa(i%api.MaxSubjects)))
	}
	wantRefused(t, full, message(5, "a b"), api.ErrSyntax)
	wantRefused(t, full, message(0, "a b"), api.ErrArg)
	wantRefused(t, full, api.Record{Kind: api.KMessage, Seq: 5, Subject: "z", Data: strings.Repeat("d", 257)}, api.ErrLarge)
	wantRefused(t, full, message(209, "z"), api.ErrExpect)
	wantRefused(t, full, message(210, "z"), api.ErrFull)
	wantRefused(t, full, message(210, "s.5"), api.ErrFull)
	wantRefused(t, full, eraseOf(5), api.ErrNone)
	wantRefused(t, full, api.Record{Kind: api.KErase, Seq: 5, Data: "d"}, api.ErrArg)
}

// A Try that answers OK changes nothing either, of each kind of record.
func TestTryChangesNothingP15(t *testing.T) {
	s := made(t, message(3, "a"), message(4, "a.b"))
	was := lookAt(s)
	for _, r := range []api.Record{message(5, "c"), eraseOf(3), purgeOf(">", 9), markOf(9), message(5, "a")} {
		for range 2 {
			if e := s.Try(r); e != api.OK {
				t.Errorf("Try(%+v): %d", r, e)
			}
		}
		if is := lookAt(s); !is.same(was) {
			t.Errorf("Try(%+v) changed the store: %+v, want %+v", r, is, was)
		}
	}
}

func TestGetP16(t *testing.T) {
	s := made(t, message(3, "a"), message(5, "b"), message(6, "a"))
	for _, seq := range []int{3, 5, 6} {
		r, e := s.Get(seq)
		wantSeq(t, "Get", r, e, seq)
	}
	wantGone(t, s, math.MinInt, -3, 0, 1, 2, 4, 7, api.MaxSeq, api.MaxSeq+1, math.MaxInt)
}

func TestLastAndNextP16(t *testing.T) {
	s := made(t, message(2, "a.b"), message(4, "a.c"), message(5, "b"), message(8, "a.b"), message(9, "a.b.c"), markOf(20))
	for _, x := range []struct {
		filter string
		want   int
	}{
		{">", 9}, {"a.*", 8}, {"a.b", 8}, {"a.c", 4}, {"*", 5}, {"a.>", 9}, {"b.>", 0}, {"c", 0}, {"*.*.*", 9},
	} {
		r, e := s.Last(x.filter)
		wantSeq(t, "Last of "+x.filter, r, e, x.want)
	}
	for _, x := range []struct {
		filter string
		from   int
		want   int
	}{
		{">", math.MinInt, 2}, {">", -1, 2}, {">", 0, 2}, {">", 2, 2}, {">", 3, 4}, {">", 6, 8}, {">", 9, 9}, {">", 10, 0},
		{">", 20, 0}, {">", math.MaxInt, 0},
		{"a.b", 0, 2}, {"a.b", 2, 2}, {"a.b", 3, 8}, {"a.b", 8, 8}, {"a.b", 9, 0},
		{"a.*", 3, 4}, {"a.*", 5, 8}, {"a.>", 9, 9}, {"*", 1, 5}, {"*", 6, 0}, {"c", 0, 0}, {"a", 0, 0},
	} {
		r, e := s.Next(x.filter, x.from)
		wantSeq(t, "Next of "+x.filter+" from "+strconv.Itoa(x.from), r, e, x.want)
	}
	do(t, s, eraseOf(9), eraseOf(2))
	r, e := s.Last(">")
	wantSeq(t, "Last", r, e, 8)
	r, e = s.Next(">", 1)
	wantSeq(t, "Next", r, e, 4)
}

func TestWholeMessagesAreToldP16(t *testing.T) {
	want := api.Record{Kind: api.KMessage, Seq: 3, Time: 77, Subject: "a.b", Header: "h\x00", Data: "\xffd"}
	s := made(t, want)
	r, e := s.Get(3)
	wantRecord(t, "Get", r, e, want, api.OK)
	r, e = s.Last("a.*")
	wantRecord(t, "Last", r, e, want, api.OK)
	r, e = s.Next("a.b", 1)
	wantRecord(t, "Next", r, e, want, api.OK)
	if all := s.All(); !slices.Equal(all, []api.Record{want}) {
		t.Errorf("All: %+v", all)
	}
}

// A wrong filter is told of an empty store, too, and wherever Next begins.
func TestWrongFiltersP1P16(t *testing.T) {
	for _, s := range []*Store{New(), made(t, message(3, "a"), message(4, "a.b"))} {
		for _, filter := range []string{
			"", ".", "a.", ">.a", "a*", "a b", "a\x00", "\xff", "tttttttttttttttt1",
			"a.b.c.d.e.f.g.h.>", strings.Repeat(".", 100000), strings.Repeat("a", 100000),
		} {
			want := subject.Filter(filter)
			if want == api.OK {
				t.Fatalf("%.40q is a filter", filter)
			}
			r, e := s.Last(filter)
			wantRecord(t, "Last", r, e, api.Record{}, want)
			for _, from := range []int{math.MinInt, 0, 3, 9, math.MaxInt} {
				r, e = s.Next(filter, from)
				wantRecord(t, "Next", r, e, api.Record{}, want)
			}
			if found, e := s.Subjects(filter); found != nil || e != want {
				t.Errorf("Subjects(%.40q): %v, %d, want %d", filter, found, e, want)
			}
		}
	}
}

// The order is that of the tokens: as whole texts `a!` and `a-.b` would lie ahead of `a.b`.
func TestSubjectsP16(t *testing.T) {
	s := made(t, message(1, "b"), message(2, "a-.b"), message(3, "a.b"), message(4, "a!"), message(5, "a"), message(6, "a.b"), message(7, "b"), message(8, "b"))
	a, ab, bang, dash, b := api.Entry{Subject: "a", N: 1}, api.Entry{Subject: "a.b", N: 2}, api.Entry{Subject: "a!", N: 1}, api.Entry{Subject: "a-.b", N: 1}, api.Entry{Subject: "b", N: 3}
	wantSubjects(t, s, ">", a, ab, bang, dash, b)
	wantSubjects(t, s, "*", a, bang, b)
	wantSubjects(t, s, "*.b", ab, dash)
	wantSubjects(t, s, "a.>", ab)
	wantSubjects(t, s, "b", b)
	wantSubjects(t, s, "c")
	do(t, s, eraseOf(3), eraseOf(5), purgeOf("b", 8))
	wantSubjects(t, s, ">", api.Entry{Subject: "a.b", N: 1}, bang, dash, api.Entry{Subject: "b", N: 1})
	do(t, s, message(9, "a"))
	wantSubjects(t, s, "*", a, bang, api.Entry{Subject: "b", N: 1})
}

func TestSumsP16(t *testing.T) {
	s := made(t, api.Record{Kind: api.KMessage, Seq: 4, Time: 1000, Subject: "abc", Header: "de", Data: "f"})
	wantSums(t, s, api.Sums{Msgs: 1, Bytes: 6, First: 4, Last: 4})
	do(t, s, api.Record{Kind: api.KMessage, Seq: 6, Subject: "a.b.c", Data: "\x00\x00"}, message(9, "z"))
	wantSums(t, s, api.Sums{Msgs: 3, Bytes: 14, First: 4, Last: 9})
	do(t, s, eraseOf(4))
	wantSums(t, s, api.Sums{Msgs: 2, Bytes: 8, First: 6, Last: 9})
	do(t, s, markOf(12), purgeOf("a.>", 12))
	wantSums(t, s, api.Sums{Msgs: 1, Bytes: 1, First: 9, Last: 12})
	do(t, s, eraseOf(9))
	wantSums(t, s, api.Sums{Last: 12})
}

func place(s string) uintptr { return uintptr(unsafe.Pointer(unsafe.StringData(s))) }

// A text that can't be written to can still share memory with another one: its place tells.
func sharesMemory(a, b string) bool {
	return a != "" && b != "" && place(a) < place(b)+uintptr(len(b)) && place(b) < place(a)+uintptr(len(a))
}

func TestTextsAreNewMemoryP2(t *testing.T) {
	given := api.Record{Kind: api.KMessage, Seq: 1, Subject: strings.Repeat("s", 16), Header: strings.Repeat("h", 90), Data: strings.Repeat("d", 90)}
	s := made(t, given)
	seen := []api.Record{given, s.messages[0]}
	for range 2 {
		got, _ := s.Get(1)
		last, _ := s.Last(">")
		next, _ := s.Next(">", 0)
		found, _ := s.Subjects(">")
		seen = append(seen, got, last, next, s.All()[0], api.Record{Subject: found[0].Subject})
	}
	for i, a := range seen {
		for j, b := range seen[:i] {
			if sharesMemory(a.Subject, b.Subject) || sharesMemory(a.Header, b.Header) || sharesMemory(a.Data, b.Data) {
				t.Errorf("%d and %d share memory", i, j)
			}
		}
	}
}

func TestListsAreNewMemoryP2(t *testing.T) {
	s := made(t, message(1, "a"), message(2, "b"), message(3, "a"))
	was, all := lookAt(s), s.All()
	found, _ := s.Subjects(">")
	clear(all[:cap(all)])
	clear(found[:cap(found)])
	if is := lookAt(s); !is.same(was) {
		t.Errorf("the store is %+v, want %+v", is, was)
	}
	kept := lookAt(made(t, message(1, "a"), message(2, "b"), message(3, "a")))
	do(t, s, eraseOf(1), message(4, "c"), purgeOf("b", 9))
	if !was.same(kept) {
		t.Errorf("an answer changed with the store: %+v, want %+v", was, kept)
	}
}

// A Store that New didn't make isn't nil, so it must answer, too.
func TestZeroStoreAnswersP1(t *testing.T) {
	var s Store
	wantSums(t, &s, api.Sums{})
	wantSubjects(t, &s, ">")
	wantGone(t, &s, 0, 1)
	wantRefused(t, &s, eraseOf(1), api.ErrNone)
	do(t, &s, purgeOf(">", 3), markOf(1), message(2, "a"))
	wantSums(t, &s, api.Sums{Msgs: 1, Bytes: 1, First: 2, Last: 2})
}

// plainStore is a store told by the document's words, in a map: what a Store is held against.
type plainStore struct {
	messages map[int]api.Record
	last     int
}

func taken(filter, s string) bool {
	is, _ := subject.Match(filter, s)
	return is
}

func (p *plainStore) subjects() map[string]int {
	counts := map[string]int{}
	for _, m := range p.messages {
		counts[m.Subject]++
	}
	return counts
}

func (p *plainStore) apply(r api.Record) api.Errno {
	if e := record.Check(r); e != api.OK {
		return e
	}
	_, has := p.messages[r.Seq]
	switch r.Kind {
	case api.KMessage:
		subjects := p.subjects()
		subjects[r.Subject]++
		if r.Seq <= p.last {
			return api.ErrExpect
		}
		if len(p.messages) == 200 || len(subjects) == 101 {
			return api.ErrFull
		}
		p.messages[r.Seq], p.last = r, r.Seq
	case api.KErase:
		if !has {
			return api.ErrNone
		}
		delete(p.messages, r.Seq)
	case api.KPurge:
		maps.DeleteFunc(p.messages, func(seq int, m api.Record) bool {
			return seq < r.Seq && taken(r.Subject, m.Subject)
		})
	case api.KMark:
		p.last = max(p.last, r.Seq)
	}
	return api.OK
}

// from tells, by Seq, the messages from a number on that a filter takes.
func (p *plainStore) from(filter string, from int) []api.Record {
	var found []api.Record
	for _, seq := range slices.Sorted(maps.Keys(p.messages)) {
		if m := p.messages[seq]; seq >= from && taken(filter, m.Subject) {
			found = append(found, m)
		}
	}
	return found
}

func (p *plainStore) entries(filter string) []api.Entry {
	var entries []api.Entry
	for s, n := range p.subjects() {
		if taken(filter, s) {
			entries = append(entries, api.Entry{Subject: s, N: n})
		}
	}
	// As a byte below all others the dot ends each token ahead of its longer ones.
	key := func(entry api.Entry) string { return strings.ReplaceAll(entry.Subject, ".", "\x00") }
	slices.SortFunc(entries, func(a, b api.Entry) int { return strings.Compare(key(a), key(b)) })
	return entries
}

func (p *plainStore) sums() api.Sums {
	sums := api.Sums{Last: p.last}
	for i, m := range p.from(">", 0) {
		if i == 0 {
			sums.First = m.Seq
		}
		sums.Msgs++
		sums.Bytes += len(m.Subject + m.Header + m.Data)
	}
	return sums
}

func (p *plainStore) look() look {
	return look{p.from(">", 0), p.entries(">"), p.sums()}
}

// someSubject gives many subjects, or few, so that either bound is met.
func someSubject(source *rand.Rand, many int) string {
	tokens := []string{"a", "a-", "b", "!"}
	s := tokens[source.Intn(len(tokens))]
	if source.Intn(3) > 0 {
		s += "." + strconv.Itoa(source.Intn(many))
	}
	return s
}

func someFilter(source *rand.Rand, many int) string {
	filters := []string{">", "*", "*.*", "a.>", "a-.*", "*." + strconv.Itoa(source.Intn(many)), "a..b", "!.>"}
	if source.Intn(2) == 0 {
		return someSubject(source, many)
	}
	return filters[source.Intn(len(filters))]
}

func someRecord(source *rand.Rand, many, last int) api.Record {
	about := func() int { return last - 250 + source.Intn(260) }
	r := api.Record{Kind: api.KMessage, Seq: last + 1 + source.Intn(2), Time: source.Intn(50)}
	switch source.Intn(40) {
	case 0, 1, 2, 3, 4:
		r.Kind, r.Seq = api.KErase, about()
	case 5:
		r.Kind, r.Seq, r.Subject = api.KPurge, about(), someFilter(source, many)
	case 6:
		r.Kind, r.Seq = api.KMark, about()
	case 7:
		r.Kind = source.Intn(6)
	case 8:
		r.Seq, r.Subject = about(), someSubject(source, many)
	default:
		r.Subject, r.Header = someSubject(source, many), strings.Repeat("h", source.Intn(9))
		r.Data = strings.Repeat("d", source.Intn(250))
	}
	return r
}

func wantAsPlain(t *testing.T, s *Store, p *plainStore, source *rand.Rand, many int) {
	t.Helper()
	if is, want := lookAt(s), p.look(); !is.same(want) {
		t.Errorf("the store is %+v, want %+v", is, want)
	}
	filter, seq := someFilter(source, many), p.last-250+source.Intn(260)
	one := func(list []api.Record, at int) (api.Record, api.Errno) {
		if e := subject.Filter(filter); e != api.OK {
			return api.Record{}, e
		}
		if len(list) == 0 {
			return api.Record{}, api.ErrNone
		}
		return list[max(at, 0)], api.OK
	}
	all := p.from(filter, 0)
	want, wantErr := one(all, len(all)-1)
	r, e := s.Last(filter)
	wantRecord(t, "Last", r, e, want, wantErr)
	want, wantErr = one(p.from(filter, seq), 0)
	r, e = s.Next(filter, seq)
	wantRecord(t, "Next", r, e, want, wantErr)
	if subject.Filter(filter) == api.OK {
		wantSubjects(t, s, filter, p.entries(filter)...)
	}
	want, wantErr = p.messages[seq], api.OK
	if want.Seq == 0 {
		wantErr = api.ErrNone
	}
	r, e = s.Get(seq)
	wantRecord(t, "Get", r, e, want, wantErr)
}

// Two stores are used in turn, so that it is seen that neither changes the other.
func TestManyCallsP2P15P16(t *testing.T) {
	source := rand.New(rand.NewSource(7))
	refused := map[api.Errno]int{}
	for _, many := range []int{3, 20, 60} {
		stores := [2]*Store{New(), New()}
		plain := [2]*plainStore{{messages: map[int]api.Record{}}, {messages: map[int]api.Record{}}}
		for step := range 3000 {
			i := source.Intn(2)
			r := someRecord(source, many, plain[i].last)
			tried := stores[i].Try(r)
			e, want := stores[i].Apply(r), plain[i].apply(r)
			if tried != want || e != want {
				t.Fatalf("step %d: %+v: %d, then %d, want %d", step, r, tried, e, want)
			}
			refused[e]++
			for j := range stores {
				if step%4 == j {
					wantAsPlain(t, stores[j], plain[j], source, many)
				}
			}
			if t.Failed() {
				t.Fatalf("step %d: %+v", step, r)
			}
		}
	}
	for _, e := range []api.Errno{api.OK, api.ErrArg, api.ErrSyntax, api.ErrNone, api.ErrFull, api.ErrExpect} {
		if refused[e] < 30 {
			t.Errorf("error %d was answered %d times only", e, refused[e])
		}
	}
}
