package server

import (
	"math"
	"reflect"
	"slices"
	"strings"
	"testing"
	"unsafe"

	"rillbook/api"
	"rillbook/record"
)

const end = 1 << 40

func wantErr(t *testing.T, call string, e, want api.Errno) {
	t.Helper()
	if e != want {
		t.Errorf("%s: %d, want %d", call, e, want)
	}
}

// serverOf has these streams, whose disks are never full.
func serverOf(t *testing.T, streams ...string) *Server {
	t.Helper()
	s := New()
	for _, text := range streams {
		wantStream(t, s, text, api.OK)
	}
	return s
}

func wantStream(t *testing.T, s *Server, text string, want api.Errno) {
	t.Helper()
	wantErr(t, "Stream("+text+")", s.Stream(text, api.MaxRoom, api.MaxBlock), want)
}

func take(t *testing.T, s *Server, name string, texts ...string) {
	t.Helper()
	for _, text := range texts {
		wantTake(t, s, name, text, api.OK)
	}
}

func wantTake(t *testing.T, s *Server, name, text string, want api.Errno) {
	t.Helper()
	wantErr(t, "Take("+name+", "+text+")", s.Take(name, text), want)
}

func post(subject string) api.Post { return api.Post{Subject: subject, Expect: -1} }

func publish(t *testing.T, s *Server, subjects ...string) {
	t.Helper()
	for _, of := range subjects {
		if name, seq, again, e := s.Publish(post(of)); name == "" || seq == 0 || again || e != api.OK {
			t.Errorf("Publish of %s: %q, %d, %t, %d", of, name, seq, again, e)
		}
	}
}

func wantPublished(t *testing.T, s *Server, x api.Post, name string, seq int, again bool, e api.Errno) {
	t.Helper()
	gotName, gotSeq, gotAgain, got := s.Publish(x)
	if gotName != name || gotSeq != seq || gotAgain != again || got != e {
		t.Errorf("Publish(%.200v): %q, %d, %t, %d, want %q, %d, %t, %d", x, gotName, gotSeq, gotAgain, got, name, seq, again, e)
	}
}

func wantSeqs(t *testing.T, s *Server, name string, want ...int) {
	t.Helper()
	all, e := s.All(name)
	var seqs []int
	for _, m := range all {
		seqs = append(seqs, m.Seq)
	}
	if e != api.OK || !slices.Equal(seqs, want) {
		t.Errorf("All(%s): %v, %d, want %v", name, seqs, e, want)
	}
}

func wantDelivery(t *testing.T, s *Server, name, who string, want api.Delivery) {
	t.Helper()
	if d, e := s.Next(name, who); d != want || e != api.OK {
		t.Errorf("Next(%s, %s): %+v, %d, want %+v", name, who, d, e, want)
	}
}

func wantNext(t *testing.T, s *Server, name, who string, seq, nth int) {
	t.Helper()
	if d, e := s.Next(name, who); d.Seq != seq || d.Nth != nth || e != api.OK {
		t.Errorf("Next(%s, %s): %+v, %d, want message %d, delivery %d of it", name, who, d, e, seq, nth)
	}
}

func wantNoNext(t *testing.T, s *Server, name, who string, want api.Errno) {
	t.Helper()
	if d, e := s.Next(name, who); d != (api.Delivery{}) || e != want {
		t.Errorf("Next(%s, %s): %+v, %d, want %d", name, who, d, e, want)
	}
}

func wantServed(t *testing.T, s *Server, name, who string, want ...int) {
	t.Helper()
	told, e := s.Serve(name, who)
	var seqs []int
	for _, d := range told {
		seqs = append(seqs, d.Seq)
	}
	if e != api.OK || !slices.Equal(seqs, want) {
		t.Errorf("Serve(%s, %s): %v, %d, want %v", name, who, seqs, e, want)
	}
}

func ask(t *testing.T, s *Server, name, who string, asked ...api.Pull) {
	t.Helper()
	for _, p := range asked {
		wantErr(t, "Pull", s.Pull(name, who, p), api.OK)
	}
}

func wantAnswer(t *testing.T, s *Server, name, who string, seq int, a api.Answer, want api.Errno) {
	t.Helper()
	if e := s.Answer(name, who, seq, a); e != want {
		t.Errorf("Answer(%s, %s, %d, %+v): %d, want %d", name, who, seq, a, e, want)
	}
}

func ack(t *testing.T, s *Server, name, who string, seqs ...int) {
	t.Helper()
	for _, seq := range seqs {
		wantAnswer(t, s, name, who, seq, api.Answer{Sort: api.SAck}, api.OK)
	}
}

func wantInfo(t *testing.T, s *Server, name, who string, want api.Info) {
	t.Helper()
	if i, e := s.Info(name, who); i != want || e != api.OK {
		t.Errorf("Info(%s, %s): %+v, %d, want %+v", name, who, i, e, want)
	}
}

func wantSums(t *testing.T, s *Server, name string, want api.Sums) {
	t.Helper()
	if sums, e := s.Sums(name); sums != want || e != api.OK {
		t.Errorf("Sums(%s): %+v, %d, want %+v", name, sums, e, want)
	}
}

func tick(t *testing.T, s *Server, n int) {
	t.Helper()
	if e := s.Tick(n); e != api.OK {
		t.Errorf("Tick(%d): %d", n, e)
	}
}

// look is all that can be seen of a server without changing it.
type look struct {
	time    int
	streams map[string]streamLook
}

type streamLook struct {
	plan      api.Plan
	messages  []api.Record
	sums      api.Sums
	consumers map[string]consumerLook
}

type consumerLook struct {
	plan      api.Taker
	info      api.Info
	due, asks int
}

func lookAt(s *Server) look {
	l := look{s.time, map[string]streamLook{}}
	for name, st := range s.streams {
		of := streamLook{st.Plan(), st.Store().All(), st.Store().Sums(), map[string]consumerLook{}}
		for who, c := range st.consumers {
			asks, _ := c.pulls.Waits(s.time)
			of.consumers[who] = consumerLook{c.Taker(), c.Info(), c.Due(), asks}
		}
		l.streams[name] = of
	}
	return l
}

func wantLook(t *testing.T, call string, s *Server, want look) {
	t.Helper()
	if is := lookAt(s); !reflect.DeepEqual(is, want) {
		t.Errorf("behind %s: %+v, want %+v", call, is, want)
	}
}

func bytesOf(t *testing.T, rs ...api.Record) int {
	t.Helper()
	all := 0
	for _, r := range rs {
		s, e := record.Encode(r)
		if e != api.OK {
			t.Fatalf("Encode(%+v): %d", r, e)
		}
		all += len(s)
	}
	return all
}

func messageOf(seq int, subject string) api.Record {
	return api.Record{Kind: api.KMessage, Seq: seq, Subject: subject}
}

func eraseOf(seq int) api.Record { return api.Record{Kind: api.KErase, Seq: seq} }

func TestNewP31(t *testing.T) {
	s := New()
	wantLook(t, "New", s, look{0, map[string]streamLook{}})
	wantPublished(t, s, post("a"), "", 0, false, api.ErrMatch)
	s.Crash(0)
	tick(t, s, 1)
	wantLook(t, "Tick", s, look{1, map[string]streamLook{}})
}

func TestStreamP31(t *testing.T) {
	s := New()
	wantStream(t, s, "x a.*,b msgs=2 keep=1", api.OK)
	wantSeqs(t, s, "x")
	wantSums(t, s, "x", api.Sums{})
	want := api.Plan{Name: "x", Filters: []string{"a.*", "b"}, MaxMsgs: 2, Keep: 1}
	if p := s.streams["x"].Plan(); !reflect.DeepEqual(p, want) {
		t.Errorf("the plan is %+v, want %+v", p, want)
	}
	wantStream(t, s, "y c", api.OK)
	wantPublished(t, s, post("b"), "x", 1, false, api.OK)
	wantPublished(t, s, post("c"), "y", 1, false, api.OK)
}

func TestStreamErrorsP1P31(t *testing.T) {
	s := serverOf(t, "x a.>", "y b.*,c")
	was := lookAt(s)
	for _, c := range []struct {
		text       string
		room, size int
		want       api.Errno
	}{
		{"", 100, 100, api.ErrSyntax},
		{"z", 100, 100, api.ErrSyntax},
		{"z d msgs", 100, 100, api.ErrSyntax},
		{"Z d", 100, 100, api.ErrSyntax},
		{"z d msgs=201", 100, 100, api.ErrArg},
		{"z d,e,f,g,h", 100, 100, api.ErrLarge},
		{"z " + strings.Repeat("d", 1023), 100, 100, api.ErrLarge},
		{"z d,d", 100, 100, api.ErrMatch},
		{"x d", 100, 100, api.ErrName},
		{"z a.b", 100, 100, api.ErrMatch},
		{"z d,*", 100, 100, api.ErrMatch},
		{"z d,e,f,*.b.*", 100, 100, api.ErrMatch},
		{"z >", 100, 100, api.ErrMatch},
		{"z d", 0, 100, api.ErrArg},
		{"z d", -1, 100, api.ErrArg},
		{"z d", api.MaxRoom + 1, 100, api.ErrArg},
		{"z d", 100, 0, api.ErrArg},
		{"z d", 100, api.MaxBlock + 1, api.ErrArg},
		{"z d", math.MinInt, math.MaxInt, api.ErrArg},
	} {
		wantErr(t, "Stream("+c.text+")", s.Stream(c.text, c.room, c.size), c.want)
		wantLook(t, "a refused Stream", s, was)
	}
	wantStream(t, s, "z d,a,b,c.*", api.OK)
}

// Each pair has the error that is told first, and one that is told behind it, too.
func TestOrderOfStreamErrorsP2P31(t *testing.T) {
	s := serverOf(t, "w a", "x b", "y c")
	wantErr(t, "a plan, and a name", s.Stream("w q,q", 100, 100), api.ErrMatch)
	wantErr(t, "a plan, and room", s.Stream("z q msgs=900", 0, 100), api.ErrArg)
	wantErr(t, "a name, and a filter", s.Stream("w b", 100, 100), api.ErrName)
	wantErr(t, "a name, and room", s.Stream("w q", 0, 100), api.ErrName)
	wantErr(t, "a filter, and room", s.Stream("z c", 0, 100), api.ErrMatch)
	wantStream(t, s, "z d", api.OK)
	wantErr(t, "a plan, and no more", s.Stream("q", 100, 100), api.ErrSyntax)
	wantErr(t, "a name, and no more", s.Stream("w q", 100, 100), api.ErrName)
	wantErr(t, "no more, and a filter", s.Stream("v a", 100, 100), api.ErrFull)
	wantErr(t, "no more, and room", s.Stream("v q", 0, 100), api.ErrFull)
}

func TestFourStreamsP31(t *testing.T) {
	s := serverOf(t, "a a", "b b", "c c", "d d")
	was := lookAt(s)
	wantStream(t, s, "e e", api.ErrFull)
	wantLook(t, "a fifth Stream", s, was)
	wantErr(t, "Drop", s.Drop("b"), api.OK)
	wantStream(t, s, "e e", api.OK)
	wantStream(t, s, "b b", api.ErrFull)
}

func TestDropP31(t *testing.T) {
	s := serverOf(t, "x a.>", "y b")
	take(t, s, "x", "c a.> wait=5")
	take(t, s, "y", "c b wait=5")
	publish(t, s, "a.a", "b", "a.b")
	y := lookAt(s).streams["y"]
	wantErr(t, "Drop", s.Drop("x"), api.OK)
	wantLook(t, "Drop", s, look{0, map[string]streamLook{"y": y}})
	wantErr(t, "Drop again", s.Drop("x"), api.ErrNone)
	wantPublished(t, s, post("a.a"), "", 0, false, api.ErrMatch)
	wantNext(t, s, "y", "c", 1, 1)

	// One that has the name then is another one, with neither messages nor consumers.
	wantStream(t, s, "x a.b", api.OK)
	wantSums(t, s, "x", api.Sums{})
	wantNoNext(t, s, "x", "c", api.ErrNone)
	take(t, s, "x", "c > wait=5")
	publish(t, s, "a.b")
	wantDelivery(t, s, "x", "c", api.Delivery{Seq: 1, Subject: "a.b", Count: 1, Nth: 1})
}

func TestTakeP31(t *testing.T) {
	s := serverOf(t, "x a.>", "y b")
	publish(t, s, "a.a", "a.b", "a.a", "b")
	take(t, s, "x", "all a.a wait=5", "last a.b from=last wait=5", "new > from=new ack=all wait=5", "three > from=3 ack=none push")
	wantInfo(t, s, "x", "all", api.Info{})
	wantInfo(t, s, "x", "last", api.Info{Floor: 1, Last: 1})
	wantInfo(t, s, "x", "new", api.Info{Floor: 3, Last: 3})
	wantInfo(t, s, "x", "three", api.Info{Floor: 2, Last: 2})
	wantDelivery(t, s, "x", "all", api.Delivery{Seq: 1, Subject: "a.a", Count: 1, Nth: 1, Left: 1})
	wantDelivery(t, s, "x", "last", api.Delivery{Seq: 2, Subject: "a.b", Count: 1, Nth: 1})
	wantNoNext(t, s, "x", "new", api.ErrNone)
	wantServed(t, s, "x", "three", 3)
	wantNoNext(t, s, "y", "all", api.ErrNone)

	// A filter may have nothing in common with what the stream takes, or with another consumer's.
	take(t, s, "y", "all a.a wait=5", "same a.a wait=5")
	wantNoNext(t, s, "y", "all", api.ErrNone)
}

func TestTakeErrorsP1P31(t *testing.T) {
	s := serverOf(t, "x a.>")
	take(t, s, "x", "c a.> wait=5")
	publish(t, s, "a.a")
	was := lookAt(s)
	for _, c := range []struct {
		name, text string
		want       api.Errno
	}{
		{"x", "", api.ErrSyntax},
		{"x", "d", api.ErrSyntax},
		{"x", "d  wait=5", api.ErrSyntax},
		{"x", "d a. wait=5", api.ErrSyntax},
		{"x", "d a wait=5 more", api.ErrSyntax},
		{"x", "d " + strings.Repeat("a", 1023), api.ErrLarge},
		{"x", "d a.a.a.a.a.a.a.a.a wait=5", api.ErrLarge},
		{"x", "d a", api.ErrArg},
		{"x", "d a wait=100001", api.ErrArg},
		{"x", "c b wait=5", api.ErrName},
		{"y", "d a wait=5", api.ErrNone},
		{"", "d a wait=5", api.ErrNone},
		{"a.>", "d a wait=5", api.ErrNone},
		// The text's errors come first.
		{"y", "d", api.ErrSyntax},
		{"y", "d a", api.ErrArg},
		{"x", "c b", api.ErrArg},
	} {
		wantTake(t, s, c.name, c.text, c.want)
		wantLook(t, "a refused Take", s, was)
	}
}

func TestSixConsumersP31(t *testing.T) {
	s := serverOf(t, "x a", "y b keep=2")
	take(t, s, "x", "1 a wait=5", "2 a wait=5", "3 a wait=5", "4 a wait=5", "5 a wait=5", "6 a wait=5")
	was := lookAt(s)
	wantTake(t, s, "x", "7 a wait=5", api.ErrFull)
	wantTake(t, s, "x", "6 a wait=5", api.ErrName)
	wantLook(t, "a seventh Take", s, was)
	wantErr(t, "Leave", s.Leave("x", "3"), api.OK)
	take(t, s, "x", "7 a wait=5")
	wantTake(t, s, "x", "3 a wait=5", api.ErrFull)

	// Each stream has its own six; their names are its own, too.
	take(t, s, "y", "1 b wait=5", "2 c wait=5", "3 d wait=5", "4 e wait=5", "5 f wait=5", "6 g wait=5")
	wantTake(t, s, "y", "7 h wait=5", api.ErrFull)
	wantTake(t, s, "y", "7 b ack=none", api.ErrFull)
	wantTake(t, s, "y", "1 b ack=none", api.ErrName)
}

func TestTakeOfWorkP31(t *testing.T) {
	s := serverOf(t, "x a.>,b keep=2", "y c keep=1", "z d")
	take(t, s, "x", "c a.*.b wait=5")
	was := lookAt(s)
	for _, c := range []struct {
		text string
		want api.Errno
	}{
		{"d b ack=none", api.ErrArg},
		{"d b ack=all wait=5", api.ErrArg},
		{"d b from=last wait=5", api.ErrArg},
		{"d b from=new wait=5", api.ErrArg},
		{"d b from=1 wait=5", api.ErrArg},
		{"d a.b.b wait=5", api.ErrMatch},
		{"d a.b.* wait=5", api.ErrMatch},
		{"d > wait=5", api.ErrMatch},
		{"d > from=new wait=5", api.ErrArg},
		{"d a.b.b ack=none", api.ErrArg},
		{"c > ack=none", api.ErrName},
	} {
		wantTake(t, s, "x", c.text, c.want)
		wantLook(t, "a refused Take", s, was)
	}
	take(t, s, "x", "d b wait=5 backoff=1 most=2 pending=3 push", "e a.* wait=5", "f a.*.c wait=5")
	wantTake(t, s, "x", "g *.b wait=5", api.ErrMatch)
	wantErr(t, "Leave", s.Leave("x", "e"), api.OK)
	take(t, s, "x", "g *.b wait=5")

	// Of work alone all that is asked for.
	for _, name := range []string{"y", "z"} {
		take(t, s, name, "c > wait=5", "d > ack=none", "e > from=new ack=all wait=5")
	}
}

func TestLeaveP31(t *testing.T) {
	s := serverOf(t, "x a", "y b")
	take(t, s, "x", "c a wait=5", "d a wait=5")
	take(t, s, "y", "c b wait=5")
	publish(t, s, "a", "a", "b")
	wantNext(t, s, "x", "c", 1, 1)
	wantNext(t, s, "x", "d", 1, 1)
	want := lookAt(s)
	delete(want.streams["x"].consumers, "c")
	wantErr(t, "Leave", s.Leave("x", "c"), api.OK)
	wantLook(t, "Leave", s, want)
	wantErr(t, "Leave again", s.Leave("x", "c"), api.ErrNone)

	// One that has the name then is another one.
	take(t, s, "x", "c a wait=5")
	wantInfo(t, s, "x", "c", api.Info{})
	ask(t, s, "x", "c", api.Pull{Batch: 3})
	wantServed(t, s, "x", "c", 1, 2)
	wantErr(t, "Leave", s.Leave("x", "c"), api.OK)
	take(t, s, "x", "c a wait=5")
	wantServed(t, s, "x", "c")
}

// What isn't there is told ahead of all that is wrong beside it.
func TestNoneComesFirstP1P31(t *testing.T) {
	s := serverOf(t, "x a", "y b keep=2")
	take(t, s, "x", "c a wait=5", "p a wait=5 push")
	take(t, s, "y", "d b wait=5")
	publish(t, s, "a", "b")
	was := lookAt(s)
	for _, name := range []string{"", "z", "X", "a", "x ", strings.Repeat("x", 5000), "\xff"} {
		wantErr(t, "Drop", s.Drop(name), api.ErrNone)
		wantErr(t, "Erase", s.Erase(name, -1), api.ErrNone)
		wantErr(t, "Compact", s.Compact(name), api.ErrNone)
		if n, e := s.Purge(name, "..", -1); n != 0 || e != api.ErrNone {
			t.Errorf("Purge(%q): %d, %d", name, n, e)
		}
		if all, e := s.All(name); len(all) != 0 || e != api.ErrNone {
			t.Errorf("All(%q): %v, %d", name, all, e)
		}
		if sums, e := s.Sums(name); sums != (api.Sums{}) || e != api.ErrNone {
			t.Errorf("Sums(%q): %+v, %d", name, sums, e)
		}
		wantNobody(t, s, name, "c")
		wantNobody(t, s, name, "nobody")
	}
	for _, who := range []string{"", "d", "C", "c ", "x", strings.Repeat("c", 5000), "\xff"} {
		wantNobody(t, s, "x", who)
	}
	wantNobody(t, s, "y", "c")
	wantNobody(t, s, "y", "p")
	wantLook(t, "calls with names that aren't there", s, was)
}

func wantNobody(t *testing.T, s *Server, name, who string) {
	t.Helper()
	wantErr(t, "Leave", s.Leave(name, who), api.ErrNone)
	wantNoNext(t, s, name, who, api.ErrNone)
	wantAnswer(t, s, name, who, 1, api.Answer{}, api.ErrNone)
	wantErr(t, "Pull", s.Pull(name, who, api.Pull{}), api.ErrNone)
	if told, e := s.Serve(name, who); len(told) != 0 || e != api.ErrNone {
		t.Errorf("Serve(%q, %q): %v, %d", name, who, told, e)
	}
	if i, e := s.Info(name, who); i != (api.Info{}) || e != api.ErrNone {
		t.Errorf("Info(%q, %q): %+v, %d", name, who, i, e)
	}
}

// News that nobody heeds, or heeds any more, is gone.
func TestInterestP32(t *testing.T) {
	s := serverOf(t, "x a,b,c keep=1")
	publish(t, s, "a")
	wantSeqs(t, s, "x")
	take(t, s, "x", "c a wait=5")
	publish(t, s, "a", "b", "a")
	wantSeqs(t, s, "x", 2, 4)
	take(t, s, "x", "d * from=new wait=5")
	publish(t, s, "b", "a")
	wantSeqs(t, s, "x", 2, 4, 5, 6)
	wantNext(t, s, "x", "c", 2, 1)
	wantSeqs(t, s, "x", 2, 4, 5, 6)
	ack(t, s, "x", "c", 2)
	wantSeqs(t, s, "x", 4, 5, 6)
	wantNext(t, s, "x", "d", 5, 1)
	wantNext(t, s, "x", "d", 6, 1)
	ack(t, s, "x", "d", 6)
	wantSeqs(t, s, "x", 4, 5, 6)
	ack(t, s, "x", "d", 5)
	wantSeqs(t, s, "x", 4, 6)
	wantNext(t, s, "x", "c", 4, 1)
	wantNext(t, s, "x", "c", 6, 1)
	ack(t, s, "x", "c", 6)
	wantSeqs(t, s, "x", 4)
	wantErr(t, "Leave", s.Leave("x", "d"), api.OK)
	wantSeqs(t, s, "x", 4)
	wantErr(t, "Leave", s.Leave("x", "c"), api.OK)
	wantSeqs(t, s, "x")
	wantSums(t, s, "x", api.Sums{Last: 6})
}

// A message ahead of a consumer's beginning is none that it still heeds.
func TestInterestOfLaterBeginningsP32(t *testing.T) {
	s := serverOf(t, "x a keep=1")
	take(t, s, "x", "c a from=3 wait=5")
	publish(t, s, "a", "a")
	wantSeqs(t, s, "x")
	publish(t, s, "a", "a")
	wantSeqs(t, s, "x", 3, 4)
	take(t, s, "x", "last a from=last wait=5")
	wantErr(t, "Leave", s.Leave("x", "c"), api.OK)
	wantSeqs(t, s, "x", 4)
}

func TestWorkP32(t *testing.T) {
	s := serverOf(t, "x a,b,c keep=2")
	publish(t, s, "a", "b", "a", "c")
	wantSeqs(t, s, "x", 1, 2, 3, 4)
	take(t, s, "x", "c a wait=5", "d b wait=5")
	wantSeqs(t, s, "x", 1, 2, 3, 4)
	wantNext(t, s, "x", "c", 1, 1)
	wantNext(t, s, "x", "c", 3, 1)
	wantSeqs(t, s, "x", 1, 2, 3, 4)
	ack(t, s, "x", "c", 3)
	wantSeqs(t, s, "x", 1, 2, 4)
	publish(t, s, "a")
	wantSeqs(t, s, "x", 1, 2, 4, 5)
	wantNext(t, s, "x", "d", 2, 1)
	wantAnswer(t, s, "x", "d", 2, api.Answer{Sort: api.STerm}, api.OK)
	wantSeqs(t, s, "x", 1, 4, 5)

	// Work that isn't done stays when its consumer leaves: the next one gets it from the front on.
	wantErr(t, "Leave", s.Leave("x", "c"), api.OK)
	wantErr(t, "Leave", s.Leave("x", "d"), api.OK)
	wantSeqs(t, s, "x", 1, 4, 5)
	take(t, s, "x", "e > wait=5 push")
	wantServed(t, s, "x", "e", 1, 4, 5)
	wantSeqs(t, s, "x", 1, 4, 5)
	ack(t, s, "x", "e", 4, 1, 5)
	wantSeqs(t, s, "x")
	wantSums(t, s, "x", api.Sums{Last: 5})
}

// A message between two that a consumer takes lies ahead of its place, and is not its work all the same.
func TestWorkOfNobodyStaysP32(t *testing.T) {
	s := serverOf(t, "x a,b keep=2")
	take(t, s, "x", "c a wait=5")
	publish(t, s, "a", "b", "a")
	wantNext(t, s, "x", "c", 1, 1)
	wantNext(t, s, "x", "c", 3, 1)
	ack(t, s, "x", "c", 1, 3)
	wantSeqs(t, s, "x", 2)
	take(t, s, "x", "d b wait=5")
	wantNext(t, s, "x", "d", 2, 1)
}

func TestLimitsAreNotSweptP32(t *testing.T) {
	s := serverOf(t, "x a")
	publish(t, s, "a", "a")
	take(t, s, "x", "c a wait=5", "d a ack=none push")
	wantServed(t, s, "x", "d", 1, 2)
	wantNext(t, s, "x", "c", 1, 1)
	ack(t, s, "x", "c", 1)
	tick(t, s, 9)
	wantErr(t, "Leave", s.Leave("x", "c"), api.OK)
	wantErr(t, "Leave", s.Leave("x", "d"), api.OK)
	wantSeqs(t, s, "x", 1, 2)
}

// Each of these calls ends with a message that nobody needs any more.
func TestSweptBehindP32(t *testing.T) {
	begin := func(text string) *Server {
		s := serverOf(t, "x a,b keep=1", "y w keep=2")
		take(t, s, "x", "c a "+text)
		publish(t, s, "a", "a")
		wantSeqs(t, s, "x", 1, 2)
		return s
	}
	s := begin("wait=5")
	wantErr(t, "Leave", s.Leave("x", "c"), api.OK)
	wantSeqs(t, s, "x")

	s = begin("wait=5")
	publish(t, s, "b")
	wantSeqs(t, s, "x", 1, 2)

	s = begin("ack=none")
	wantNext(t, s, "x", "c", 1, 1)
	wantSeqs(t, s, "x", 2)
	ask(t, s, "x", "c", api.Pull{Batch: 3})
	wantSeqs(t, s, "x", 2)
	wantServed(t, s, "x", "c", 2)
	wantSeqs(t, s, "x")

	s = begin("ack=none push")
	wantServed(t, s, "x", "c", 1, 2)
	wantSeqs(t, s, "x")

	s = begin("ack=all wait=5 push")
	wantServed(t, s, "x", "c", 1, 2)
	wantSeqs(t, s, "x", 1, 2)
	ack(t, s, "x", "c", 2)
	wantSeqs(t, s, "x")

	s = begin("wait=5")
	wantNext(t, s, "x", "c", 1, 1)
	wantAnswer(t, s, "x", "c", 1, api.Answer{Sort: api.SNak}, api.OK)
	wantAnswer(t, s, "x", "c", 1, api.Answer{Sort: api.SWork}, api.OK)
	wantAnswer(t, s, "x", "c", 2, api.Answer{Sort: api.SAck}, api.ErrNone)
	wantSeqs(t, s, "x", 1, 2)
	wantAnswer(t, s, "x", "c", 1, api.Answer{Sort: api.STerm}, api.OK)
	wantSeqs(t, s, "x", 2)
}

// What was delivered as often as it may be is done with once it is looked at, whatever that call answers.
func TestSweptBehindErrorsP32(t *testing.T) {
	for _, stream := range []string{"x a keep=1", "x a keep=2"} {
		s := serverOf(t, stream)
		take(t, s, "x", "c a wait=5 most=1")
		publish(t, s, "a")
		wantNext(t, s, "x", "c", 1, 1)
		tick(t, s, 4)
		wantNoNext(t, s, "x", "c", api.ErrNone)
		wantSeqs(t, s, "x", 1)
		tick(t, s, 1)
		wantSeqs(t, s, "x", 1)
		wantNoNext(t, s, "x", "c", api.ErrNone)
		wantSeqs(t, s, "x")

		publish(t, s, "a")
		ask(t, s, "x", "c", api.Pull{Batch: 3})
		wantServed(t, s, "x", "c", 2)
		tick(t, s, 5)
		wantSeqs(t, s, "x", 2)
		wantServed(t, s, "x", "c")
		wantSeqs(t, s, "x")
	}
}

// Two streams, and their consumers of the same name, have nothing in common.
func TestStreamsAreApartP2P31P32(t *testing.T) {
	s := serverOf(t, "x a keep=1", "y b keep=1")
	take(t, s, "x", "c > wait=5")
	take(t, s, "y", "c > wait=5")
	publish(t, s, "a", "b", "a", "b")
	wantNext(t, s, "y", "c", 1, 1)
	ask(t, s, "y", "c", api.Pull{Batch: 1})
	y := lookAt(s).streams["y"]
	wantNext(t, s, "x", "c", 1, 1)
	ack(t, s, "x", "c", 1)
	wantSeqs(t, s, "x", 2)
	wantServed(t, s, "x", "c")
	wantErr(t, "Leave", s.Leave("x", "c"), api.OK)
	wantSeqs(t, s, "x")
	publish(t, s, "a")
	wantErr(t, "Drop", s.Drop("x"), api.OK)
	if is := lookAt(s).streams["y"]; !reflect.DeepEqual(is, y) {
		t.Errorf("the other stream is %+v, was %+v", is, y)
	}
}

// A sweep ends where the disk has no room for an erase, and goes by number till there.
func TestSweepOfAFullDiskP32(t *testing.T) {
	messages := []api.Record{messageOf(1, "a"), messageOf(2, "a"), messageOf(3, "a")}
	room := bytesOf(t, append(messages, eraseOf(1))...)
	for _, spare := range []int{0, bytesOf(t, eraseOf(2)) - 1} {
		s := New()
		wantErr(t, "Stream", s.Stream("x a keep=1", room+spare, 100), api.OK)
		take(t, s, "x", "c a ack=none push", "d a ack=none")
		publish(t, s, "a", "a", "a")
		wantServed(t, s, "x", "c", 1, 2, 3)
		wantSeqs(t, s, "x", 1, 2, 3)
		wantErr(t, "Leave", s.Leave("x", "d"), api.OK)
		wantSeqs(t, s, "x", 2, 3)
		wantNoNext(t, s, "x", "c", api.ErrNone)
		wantTake(t, s, "x", "e a wait=5", api.OK)
		tick(t, s, 1)
		wantSeqs(t, s, "x", 2, 3)
	}

	s := New()
	wantErr(t, "Stream", s.Stream("x a keep=2", room, 100), api.OK)
	take(t, s, "x", "c a wait=5 push")
	publish(t, s, "a", "a", "a")
	wantServed(t, s, "x", "c", 1, 2, 3)
	ack(t, s, "x", "c", 2)
	wantSeqs(t, s, "x", 1, 3)
	// That the message couldn't be taken away is not told, and its consumer is done with it.
	ack(t, s, "x", "c", 1)
	wantSeqs(t, s, "x", 1, 3)
	tick(t, s, 5)
	wantServed(t, s, "x", "c", 3)
	wantInfo(t, s, "x", "c", api.Info{Floor: 2, Last: 3, Count: 4, Pending: 1})
}

func TestPublishP33(t *testing.T) {
	s := serverOf(t, "x a.>,b window=5", "y c,d.* msgs=1")
	wantPublished(t, s, post("a.b"), "x", 1, false, api.OK)
	wantPublished(t, s, post("d.x"), "y", 1, false, api.OK)
	tick(t, s, 3)
	wantPublished(t, s, api.Post{Subject: "b", Id: "i", Header: "h", Data: "d", Expect: 1}, "x", 2, false, api.OK)
	wantPublished(t, s, post("c"), "y", 2, false, api.OK)
	all, _ := s.All("x")
	want := []api.Record{
		{Kind: api.KMessage, Seq: 1, Subject: "a.b"},
		{Kind: api.KMessage, Seq: 2, Time: 3, Subject: "b", Header: "h", Data: "d"},
	}
	if !slices.Equal(all, want) {
		t.Errorf("All: %+v, want %+v", all, want)
	}
	wantSeqs(t, s, "y", 2)

	// An id is known for as long as the server's time says.
	known := api.Post{Subject: "b", Id: "i", Expect: -1}
	wantPublished(t, s, known, "x", 2, true, api.OK)
	tick(t, s, 5)
	wantPublished(t, s, known, "x", 2, true, api.OK)
	tick(t, s, 1)
	wantPublished(t, s, known, "x", 3, false, api.OK)
}

func TestPublishErrorsP1P33(t *testing.T) {
	s := serverOf(t, "x a.>,b size=3", "y c msgs=1 discard=1")
	publish(t, s, "b", "c")
	was := lookAt(s)
	for _, c := range []struct {
		x    api.Post
		name string
		want api.Errno
	}{
		{post(""), "", api.ErrSyntax},
		{post("a.*"), "", api.ErrSyntax},
		{post("a."), "", api.ErrSyntax},
		{post("a.a.a.a.a.a.a.a.a"), "", api.ErrLarge},
		{post("q"), "", api.ErrMatch},
		{post("a"), "", api.ErrMatch},
		{post("b.b"), "", api.ErrMatch},
		{api.Post{Subject: ">", Expect: -2}, "", api.ErrSyntax},
		{api.Post{Subject: "q", Expect: -2}, "", api.ErrMatch},
		{api.Post{Subject: "b", Expect: -2}, "x", api.ErrArg},
		{api.Post{Subject: "b", Expect: math.MinInt}, "x", api.ErrArg},
		{api.Post{Subject: "b", Expect: -1, Roll: 3}, "x", api.ErrArg},
		{api.Post{Subject: "a.b", Expect: -1, Data: "1234"}, "x", api.ErrLarge},
		{api.Post{Subject: "a.b", Expect: 0}, "x", api.ErrExpect},
		{api.Post{Subject: "a.b", Expect: 2}, "x", api.ErrExpect},
		{post("c"), "y", api.ErrFull},
	} {
		wantPublished(t, s, c.x, c.name, 0, false, c.want)
		wantLook(t, "a refused Publish", s, was)
	}
}

func TestPublishOnAFullDiskP33(t *testing.T) {
	s := New()
	wantErr(t, "Stream", s.Stream("x a msgs=1", bytesOf(t, messageOf(1, "a"), eraseOf(1)), 100), api.OK)
	publish(t, s, "a")
	wantPublished(t, s, post("a"), "x", 0, false, api.ErrFull)
	wantSeqs(t, s, "x")
}

func TestNextP33(t *testing.T) {
	s := serverOf(t, "x a,b")
	take(t, s, "x", "c a wait=5 pending=2", "p a wait=5 push")
	wantNoNext(t, s, "x", "c", api.ErrNone)
	wantPublished(t, s, api.Post{Subject: "a", Header: "h", Data: "d", Expect: -1}, "x", 1, false, api.OK)
	publish(t, s, "b", "a", "a")
	wantDelivery(t, s, "x", "c", api.Delivery{Seq: 1, Subject: "a", Data: "d", Count: 1, Nth: 1, Left: 2})
	tick(t, s, 2)
	wantNext(t, s, "x", "c", 3, 1)
	wantNoNext(t, s, "x", "c", api.ErrState)
	tick(t, s, 2)
	wantNoNext(t, s, "x", "c", api.ErrState)
	tick(t, s, 1)
	wantDelivery(t, s, "x", "c", api.Delivery{Seq: 1, Subject: "a", Data: "d", Count: 3, Nth: 2, Left: 1})
	wantNoNext(t, s, "x", "c", api.ErrState)
	ack(t, s, "x", "c", 1)
	wantNext(t, s, "x", "c", 4, 1)

	// With Push, too; and what one gets the other one gets all the same.
	wantDelivery(t, s, "x", "p", api.Delivery{Seq: 1, Subject: "a", Data: "d", Count: 1, Nth: 1, Left: 2})
}

func TestAnswerP33(t *testing.T) {
	s := serverOf(t, "x a")
	take(t, s, "x", "c a wait=5")
	publish(t, s, "a", "a", "a", "a")
	tick(t, s, 10)
	for seq := range 4 {
		wantNext(t, s, "x", "c", seq+1, 1)
	}
	tick(t, s, 3)
	ack(t, s, "x", "c", 1)
	wantAnswer(t, s, "x", "c", 2, api.Answer{Sort: api.SNak, N: 4}, api.OK)
	wantAnswer(t, s, "x", "c", 3, api.Answer{Sort: api.SWork}, api.OK)
	wantAnswer(t, s, "x", "c", 4, api.Answer{Sort: api.STerm}, api.OK)
	wantInfo(t, s, "x", "c", api.Info{Floor: 1, Last: 4, Count: 4, Pending: 2})
	tick(t, s, 3)
	wantNoNext(t, s, "x", "c", api.ErrNone)
	tick(t, s, 1)
	wantNext(t, s, "x", "c", 2, 2)
	wantNoNext(t, s, "x", "c", api.ErrNone)
	tick(t, s, 1)
	wantNext(t, s, "x", "c", 3, 2)
	wantNoNext(t, s, "x", "c", api.ErrNone)
}

func TestWrongAnswersP1P33(t *testing.T) {
	s := serverOf(t, "x a")
	take(t, s, "x", "c a wait=5", "d a wait=5")
	publish(t, s, "a")
	wantNext(t, s, "x", "c", 1, 1)
	was := lookAt(s)
	for _, a := range []api.Answer{{}, {Sort: 5}, {Sort: -1}, {Sort: api.SNak, N: -1}, {Sort: api.SNak, N: 100001}, {Sort: api.SAck, N: 1}, {Sort: math.MaxInt, N: math.MinInt}} {
		wantAnswer(t, s, "x", "c", 1, a, api.ErrArg)
		wantAnswer(t, s, "x", "c", 9, a, api.ErrArg)
	}
	for _, seq := range []int{math.MinInt, -1, 0, 2, math.MaxInt} {
		wantAnswer(t, s, "x", "c", seq, api.Answer{Sort: api.SAck}, api.ErrNone)
	}
	wantAnswer(t, s, "x", "d", 1, api.Answer{Sort: api.SAck}, api.ErrNone)
	wantLook(t, "wrong answers", s, was)
}

func TestPullP1P33(t *testing.T) {
	s := serverOf(t, "x a")
	take(t, s, "x", "c a wait=5", "d a wait=5", "p a wait=5 push")
	publish(t, s, "a", "a")
	tick(t, s, 7)
	was := lookAt(s)
	for _, p := range []api.Pull{{}, {Batch: -1}, {Batch: 51}, {Batch: 1, Till: -1}, {Batch: 1, Till: end + 1}, {Batch: math.MaxInt, Till: math.MinInt, NoWait: true}} {
		wantErr(t, "a wrong Pull", s.Pull("x", "c", p), api.ErrArg)
		wantErr(t, "a wrong Pull with Push", s.Pull("x", "p", p), api.ErrState)
	}
	wantErr(t, "Pull with Push", s.Pull("x", "p", api.Pull{Batch: 1}), api.ErrState)
	wantLook(t, "refused pulls", s, was)

	// Those that have ended at the server's time are gone, and make room.
	for range 9 {
		ask(t, s, "x", "c", api.Pull{Batch: 1})
	}
	ask(t, s, "x", "c", api.Pull{Batch: 1, Till: 9})
	tick(t, s, 1)
	wantErr(t, "an eleventh Pull", s.Pull("x", "c", api.Pull{Batch: 1}), api.ErrFull)
	tick(t, s, 1)
	ask(t, s, "x", "c", api.Pull{Batch: 1})
	wantErr(t, "an eleventh Pull", s.Pull("x", "c", api.Pull{Batch: 1}), api.ErrFull)

	// A pull delivers nothing by itself, and is its consumer's alone.
	wantInfo(t, s, "x", "c", api.Info{})
	wantServed(t, s, "x", "d")
	wantServed(t, s, "x", "c", 1, 2)
}

func TestServeOfPullsP33(t *testing.T) {
	s := serverOf(t, "x a,b")
	take(t, s, "x", "c a wait=5")
	publish(t, s, "a", "a", "b", "a", "a")
	wantServed(t, s, "x", "c")
	wantInfo(t, s, "x", "c", api.Info{})
	ask(t, s, "x", "c", api.Pull{Batch: 1}, api.Pull{Batch: 2})
	told, e := s.Serve("x", "c")
	want := []api.Delivery{
		{Seq: 1, Subject: "a", Count: 1, Nth: 1, Left: 3},
		{Seq: 2, Subject: "a", Count: 2, Nth: 1, Left: 2},
		{Seq: 4, Subject: "a", Count: 3, Nth: 1, Left: 1},
	}
	if !slices.Equal(told, want) || e != api.OK {
		t.Errorf("Serve: %+v, %d, want %+v", told, e, want)
	}
	// Once no pull waits nothing is delivered any more.
	wantServed(t, s, "x", "c")
	wantInfo(t, s, "x", "c", api.Info{Last: 4, Count: 3, Pending: 3})

	// A pull that isn't served to its end waits for what comes, also for what is due again.
	ask(t, s, "x", "c", api.Pull{Batch: 4})
	wantServed(t, s, "x", "c", 5)
	wantServed(t, s, "x", "c")
	tick(t, s, 5)
	ack(t, s, "x", "c", 2, 4)
	publish(t, s, "a", "a")
	wantServed(t, s, "x", "c", 1, 5, 6)
	wantServed(t, s, "x", "c")
	ask(t, s, "x", "c", api.Pull{Batch: 1})
	wantServed(t, s, "x", "c", 7)
}

// Those with NoWait go where nothing is left for them, and only there.
func TestServeAndNoWaitP33(t *testing.T) {
	s := serverOf(t, "x a")
	take(t, s, "x", "c a wait=50")
	publish(t, s, "a", "a", "a")
	ask(t, s, "x", "c", api.Pull{Batch: 2, NoWait: true}, api.Pull{Batch: 3}, api.Pull{Batch: 4, NoWait: true})
	wantServed(t, s, "x", "c", 1, 2, 3)
	publish(t, s, "a", "a", "a")
	wantServed(t, s, "x", "c", 4, 5)

	ask(t, s, "x", "c", api.Pull{Batch: 3, NoWait: true})
	wantServed(t, s, "x", "c", 6)
	publish(t, s, "a", "a")
	wantServed(t, s, "x", "c")
	ask(t, s, "x", "c", api.Pull{Batch: 1, NoWait: true}, api.Pull{Batch: 1, NoWait: true})
	wantServed(t, s, "x", "c", 7, 8)

	ask(t, s, "x", "c", api.Pull{Batch: 1, NoWait: true})
	wantServed(t, s, "x", "c")
	publish(t, s, "a")
	wantServed(t, s, "x", "c")
}

// ErrState, as each error of Next, lets those with NoWait go, too.
func TestServeAtMostPendingP33(t *testing.T) {
	s := serverOf(t, "x a")
	take(t, s, "x", "c a wait=50 pending=2", "p a wait=50 pending=2 push")
	publish(t, s, "a", "a", "a", "a")
	ask(t, s, "x", "c", api.Pull{Batch: 3}, api.Pull{Batch: 2, NoWait: true})
	wantServed(t, s, "x", "c", 1, 2)
	ack(t, s, "x", "c", 1, 2)
	wantServed(t, s, "x", "c", 3)
	wantServed(t, s, "x", "p", 1, 2)
	wantServed(t, s, "x", "p")
	ack(t, s, "x", "p", 2)
	wantServed(t, s, "x", "p", 3)
}

func TestServeAndTillP33(t *testing.T) {
	s := serverOf(t, "x a")
	take(t, s, "x", "c a wait=50")
	ask(t, s, "x", "c", api.Pull{Batch: 2, Till: 5}, api.Pull{Batch: 1, Till: 6}, api.Pull{Batch: 1})
	publish(t, s, "a")
	tick(t, s, 4)
	wantServed(t, s, "x", "c", 1)
	publish(t, s, "a", "a", "a")
	tick(t, s, 1)
	wantServed(t, s, "x", "c", 2, 3)
	ask(t, s, "x", "c", api.Pull{Batch: 1, Till: 5})
	wantServed(t, s, "x", "c")
}

func TestServeWithPushP33(t *testing.T) {
	s := serverOf(t, "x a,b")
	take(t, s, "x", "p a wait=5 push", "q > ack=none push")
	wantServed(t, s, "x", "p")
	publish(t, s, "a", "b", "a")
	told, e := s.Serve("x", "p")
	want := []api.Delivery{{Seq: 1, Subject: "a", Count: 1, Nth: 1, Left: 1}, {Seq: 3, Subject: "a", Count: 2, Nth: 1}}
	if !slices.Equal(told, want) || e != api.OK {
		t.Errorf("Serve: %+v, %d, want %+v", told, e, want)
	}
	wantServed(t, s, "x", "q", 1, 2, 3)
	wantServed(t, s, "x", "p")
	tick(t, s, 5)
	publish(t, s, "a")
	wantServed(t, s, "x", "p", 1, 3, 4)
	wantServed(t, s, "x", "q", 4)
	// What is due at once comes once, as it waits then.
	wantAnswer(t, s, "x", "p", 3, api.Answer{Sort: api.SNak}, api.OK)
	wantServed(t, s, "x", "p", 3)
	wantServed(t, s, "x", "p")
}

func TestServeOfAllMessagesP33(t *testing.T) {
	s := serverOf(t, "x a")
	take(t, s, "x", "p a wait=5 push", "c a wait=5")
	var all []int
	for n := range 200 {
		publish(t, s, "a")
		all = append(all, n+1)
	}
	wantPublished(t, s, post("a"), "x", 0, false, api.ErrFull)
	wantServed(t, s, "x", "p", all...)
	tick(t, s, 5)
	wantServed(t, s, "x", "p", all...)
	for range 5 {
		ask(t, s, "x", "c", api.Pull{Batch: 50})
	}
	wantServed(t, s, "x", "c", all...)
	// Each pull is one of its own: the last one of the five waits still.
	tick(t, s, 5)
	wantServed(t, s, "x", "c", all[:50]...)
}

func TestEraseP34(t *testing.T) {
	s := serverOf(t, "x a", "y b")
	take(t, s, "x", "c a wait=5")
	publish(t, s, "a", "a", "a", "b")
	wantErr(t, "Erase", s.Erase("x", 2), api.OK)
	wantSeqs(t, s, "x", 1, 3)
	wantSeqs(t, s, "y", 1)
	was := lookAt(s)
	wantErr(t, "Erase again", s.Erase("x", 2), api.ErrNone)
	wantErr(t, "Erase of none", s.Erase("x", 4), api.ErrNone)
	for _, seq := range []int{math.MinInt, -1, 0, end + 1, math.MaxInt} {
		wantErr(t, "Erase of no number", s.Erase("x", seq), api.ErrArg)
	}
	wantLook(t, "a refused Erase", s, was)
	wantNext(t, s, "x", "c", 1, 1)
	wantNext(t, s, "x", "c", 3, 1)
}

func TestPurgeP34(t *testing.T) {
	s := serverOf(t, "x a.*", "y b")
	publish(t, s, "a.a", "a.b", "a.a", "a.a", "b")
	purge := func(filter string, below, want int, e api.Errno) {
		t.Helper()
		if n, got := s.Purge("x", filter, below); n != want || got != e {
			t.Errorf("Purge(%s, %d): %d, %d, want %d, %d", filter, below, n, got, want, e)
		}
	}
	purge("a.a", 4, 2, api.OK)
	wantSeqs(t, s, "x", 2, 4)
	purge("a.a", 4, 0, api.OK)
	was := lookAt(s)
	purge("a..", 4, 0, api.ErrSyntax)
	purge("a.a.a.a.a.a.a.a.a", 4, 0, api.ErrLarge)
	purge(">", 0, 0, api.ErrArg)
	purge("a..", 0, 0, api.ErrArg)
	purge(">", end+1, 0, api.ErrArg)
	wantLook(t, "a refused Purge", s, was)
	purge(">", end, 2, api.OK)
	wantSeqs(t, s, "x")
	wantSeqs(t, s, "y", 1)
}

func TestCompactP34(t *testing.T) {
	s := New()
	two := bytesOf(t, messageOf(1, "a"), messageOf(2, "a"))
	wantErr(t, "Stream", s.Stream("x a", 3*two, 100), api.OK)
	publish(t, s, "a", "a")
	wantErr(t, "Erase", s.Erase("x", 1), api.OK)
	was := lookAt(s)
	wantErr(t, "Compact", s.Compact("x"), api.OK)
	wantLook(t, "Compact", s, was)
	// What went is no longer on the disk, so that there is room for three messages more.
	publish(t, s, "a", "a", "a")
	was = lookAt(s)
	wantErr(t, "Compact without room", s.Compact("x"), api.ErrFull)
	wantLook(t, "Compact", s, was)
	s.Crash(0)
	wantLook(t, "Crash", s, was)
}

func TestTickP1P34(t *testing.T) {
	s := serverOf(t, "x a")
	take(t, s, "x", "c a wait=5")
	publish(t, s, "a")
	was := lookAt(s)
	for _, n := range []int{math.MinInt, -1, 0, 100001, end, math.MaxInt} {
		wantErr(t, "a wrong Tick", s.Tick(n), api.ErrArg)
		wantLook(t, "a wrong Tick", s, was)
	}
	for _, n := range []int{1, 2, 100000} {
		tick(t, s, n)
		was.time += n
		wantLook(t, "Tick", s, was)
	}
	publish(t, s, "a")
	if all, _ := s.All("x"); len(all) != 2 || all[1].Time != 100003 {
		t.Errorf("All: %+v", all)
	}
}

// The time is set here, as ticks to the end of it were too many.
func TestEndOfTimeP34(t *testing.T) {
	s := serverOf(t, "x a age=1")
	s.time = end - 100000
	wantErr(t, "Tick", s.Tick(100001), api.ErrArg)
	tick(t, s, 99999)
	take(t, s, "x", "c a wait=5")
	publish(t, s, "a")
	was := lookAt(s)
	wantErr(t, "Tick above MaxTime", s.Tick(2), api.ErrArg)
	wantErr(t, "Tick above MaxTime", s.Tick(100000), api.ErrArg)
	wantLook(t, "a wrong Tick", s, was)
	tick(t, s, 1)
	wantErr(t, "Tick behind MaxTime", s.Tick(1), api.ErrArg)
	publish(t, s, "a")
	wantNext(t, s, "x", "c", 1, 1)
	ask(t, s, "x", "c", api.Pull{Batch: 1})
	wantServed(t, s, "x", "c", 2)
}

func TestTickAgesP34(t *testing.T) {
	s := serverOf(t, "x a age=5", "y b age=3 keep=2", "z c")
	take(t, s, "x", "c a wait=50")
	publish(t, s, "a", "b", "c")
	tick(t, s, 2)
	publish(t, s, "a", "b", "c")
	tick(t, s, 1)
	wantSeqs(t, s, "y", 1, 2)
	tick(t, s, 1)
	wantSeqs(t, s, "y", 2)
	tick(t, s, 1)
	wantSeqs(t, s, "x", 1, 2)
	tick(t, s, 1)
	wantSeqs(t, s, "x", 2)
	wantSeqs(t, s, "y")
	wantNext(t, s, "x", "c", 2, 1)
	tick(t, s, 100)
	wantSeqs(t, s, "x")
	wantSeqs(t, s, "z", 1, 2)
	wantSums(t, s, "x", api.Sums{Last: 2})
	// What one was waited for goes, too, and isn't delivered again then.
	wantNoNext(t, s, "x", "c", api.ErrNone)
}

// One stream's full disk is not told, and keeps no other one from its turn.
func TestTickOfAFullDiskP34(t *testing.T) {
	s := New()
	room := bytesOf(t, messageOf(1, "a"), messageOf(2, "a"), eraseOf(1))
	for _, text := range []string{"x a age=5", "w b age=5", "y c age=5"} {
		wantErr(t, "Stream", s.Stream(text, room, 100), api.OK)
	}
	publish(t, s, "a", "a", "b", "c", "c")
	tick(t, s, 6)
	wantSeqs(t, s, "x", 2)
	wantSeqs(t, s, "w")
	wantSeqs(t, s, "y", 2)
}

// Behind a stop all is as it was, but for the ids that were known.
func TestCrashP34(t *testing.T) {
	for _, keep := range []int{math.MinInt, -1, 0, 1, 5, math.MaxInt} {
		s := serverOf(t, "x a keep=1 window=9", "y b keep=2", "z c msgs=2 window=9")
		take(t, s, "x", "c a wait=5", "d a wait=5")
		take(t, s, "y", "c b wait=5")
		ask(t, s, "x", "d", api.Pull{Batch: 2})
		publish(t, s, "a", "b", "a", "b", "c", "c", "c")
		known := api.Post{Subject: "c", Id: "i", Expect: -1}
		wantPublished(t, s, known, "z", 4, false, api.OK)
		wantNext(t, s, "x", "c", 1, 1)
		wantNext(t, s, "y", "c", 1, 1)
		ack(t, s, "y", "c", 1)
		tick(t, s, 3)
		was := lookAt(s)
		s.Crash(keep)
		wantLook(t, "Crash", s, was)
		s.Crash(keep)
		wantLook(t, "a second Crash", s, was)
		wantPublished(t, s, known, "z", 5, false, api.OK)
		wantPublished(t, s, known, "z", 5, true, api.OK)
		wantServed(t, s, "x", "d", 1, 2)
		ack(t, s, "x", "d", 1, 2)
		ack(t, s, "x", "c", 1)
		wantSeqs(t, s, "x", 2)
		tick(t, s, 5)
		wantNext(t, s, "y", "c", 2, 1)
	}
}

func TestAllSumsInfoP34(t *testing.T) {
	s := serverOf(t, "x a.*", "y b")
	tick(t, s, 4)
	wantPublished(t, s, api.Post{Subject: "a.b", Header: "hh", Data: "ddd", Expect: -1}, "x", 1, false, api.OK)
	publish(t, s, "b", "b", "a.c", "a.d")
	wantErr(t, "Erase", s.Erase("x", 2), api.OK)
	all, e := s.All("x")
	want := []api.Record{
		{Kind: api.KMessage, Seq: 1, Time: 4, Subject: "a.b", Header: "hh", Data: "ddd"},
		{Kind: api.KMessage, Seq: 3, Time: 4, Subject: "a.d"},
	}
	if !slices.Equal(all, want) || e != api.OK {
		t.Errorf("All: %+v, %d, want %+v", all, e, want)
	}
	wantSums(t, s, "x", api.Sums{Msgs: 2, Bytes: 11, First: 1, Last: 3})
	wantSums(t, s, "y", api.Sums{Msgs: 2, Bytes: 2, First: 1, Last: 2})
	take(t, s, "x", "c > wait=5", "d > wait=5")
	wantNext(t, s, "x", "c", 1, 1)
	wantNext(t, s, "x", "c", 3, 1)
	ack(t, s, "x", "c", 1)
	wantInfo(t, s, "x", "c", api.Info{Floor: 2, Last: 3, Count: 2, Pending: 1})
	wantInfo(t, s, "x", "d", api.Info{})
}

// A Server that New didn't make answers as one without streams.
func TestZeroServerAnswersP1P31(t *testing.T) {
	var s Server
	wantNobody(t, &s, "x", "c")
	wantPublished(t, &s, post("a"), "", 0, false, api.ErrMatch)
	wantTake(t, &s, "x", "c a wait=5", api.ErrNone)
	wantErr(t, "Drop", s.Drop("x"), api.ErrNone)
	s.Crash(0)
	tick(t, &s, 1)
	wantStream(t, &s, "x a", api.OK)
	publish(t, &s, "a")
	wantSeqs(t, &s, "x", 1)
}

func TestListsAreNewMemoryP2(t *testing.T) {
	s := serverOf(t, "x a")
	take(t, s, "x", "c a wait=5 push")
	publish(t, s, "a", "a", "a")
	was := lookAt(s)
	all, _ := s.All("x")
	for i := range all[:cap(all)] {
		all[:cap(all)][i] = api.Record{}
	}
	wantLook(t, "a change of what All told", s, was)
	told, _ := s.Serve("x", "c")
	was = lookAt(s)
	clear(told[:cap(told)])
	_ = append(told, api.Delivery{Seq: 9})
	wantLook(t, "a change of what Serve told", s, was)
	tick(t, s, 5)
	wantServed(t, s, "x", "c", 1, 2, 3)
}

func placeOf(s string) uintptr { return uintptr(unsafe.Pointer(unsafe.StringData(s))) }

// A text that can't be written to can still share memory with another one: its place tells.
func sharesMemory(a, b string) bool {
	return a != "" && b != "" && placeOf(a) < placeOf(b)+uintptr(len(b)) && placeOf(b) < placeOf(a)+uintptr(len(a))
}

func TestTextsAreNewMemoryP2(t *testing.T) {
	long := func(b string) string { return strings.Repeat(b, 16) }
	s := New()
	texts := []string{long("x") + " " + long("a") + ".* window=9", long("c") + " " + long("a") + ".* wait=5"}
	wantStream(t, s, texts[0], api.OK)
	wantTake(t, s, long("x"), texts[1], api.OK)
	x := api.Post{Subject: long("a") + ".b", Id: long("i"), Header: long("h"), Data: long("d"), Expect: -1}
	texts = append(texts, x.Subject, x.Id, x.Header, x.Data)
	for range 2 {
		name, _, _, _ := s.Publish(x)
		texts = append(texts, name)
		tick(t, s, 5)
		all, _ := s.All(long("x"))
		d, _ := s.Next(long("x"), long("c"))
		texts = append(texts, all[0].Subject, all[0].Header, all[0].Data, d.Subject, d.Data)
	}
	for name, st := range s.streams {
		texts = append(texts, name)
		for who := range st.consumers {
			texts = append(texts, who)
		}
	}
	for i, a := range texts {
		for j, b := range texts[:i] {
			if sharesMemory(a, b) {
				t.Errorf("texts %d and %d, %.20q and %.20q, share memory", i, j, a, b)
			}
		}
	}
}
