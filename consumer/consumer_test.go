package consumer

import (
	"maps"
	"math"
	"math/rand"
	"reflect"
	"slices"
	"strconv"
	"strings"
	"testing"
	"unsafe"

	"rillbook/api"
	"rillbook/store"
	"rillbook/subject"
	"rillbook/taker"
)

const (
	end  = 1 << 40
	none = -1
)

// asking is a plan with acks of each message, of which the rest may be changed.
func asking(change func(x *api.Taker)) api.Taker {
	x := api.Taker{Name: "c", Filter: "a.*", Ack: api.AckExplicit, Wait: 5}
	if change != nil {
		change(&x)
	}
	return x
}

func silent() api.Taker {
	return api.Taker{Name: "c", Filter: "a.*", Ack: api.AckNone}
}

func newConsumer(t *testing.T, x api.Taker, st *store.Store) *Consumer {
	t.Helper()
	c, e := New(x, st)
	if c == nil || e != api.OK {
		t.Fatalf("New(%+v): %v, %d", x, c, e)
	}
	return c
}

func apply(t *testing.T, st *store.Store, r api.Record) {
	t.Helper()
	if e := st.Apply(r); e != api.OK {
		t.Fatalf("Apply(%+v): %d", r, e)
	}
}

func message(seq int, subject string) api.Record {
	return api.Record{Kind: api.KMessage, Seq: seq, Subject: subject, Header: "h", Data: "d" + strconv.Itoa(seq)}
}

// storeOf has messages of these subjects, numbered from 1 on.
func storeOf(t *testing.T, subjects ...string) *store.Store {
	t.Helper()
	st := store.New()
	for i, s := range subjects {
		apply(t, st, message(i+1, s))
	}
	return st
}

func erase(t *testing.T, st *store.Store, seqs ...int) {
	t.Helper()
	for _, seq := range seqs {
		apply(t, st, api.Record{Kind: api.KErase, Seq: seq})
	}
}

func mark(t *testing.T, st *store.Store, seq int) {
	t.Helper()
	apply(t, st, api.Record{Kind: api.KMark, Seq: seq})
}

// look is all that a consumer tells without being asked for a message.
type look struct {
	plan api.Taker
	due  int
	info api.Info
	done [12]bool
}

func lookAt(c *Consumer) look {
	l := look{plan: c.Taker(), due: c.Due(), info: c.Info()}
	for i := range l.done {
		l.done[i] = c.Done(i)
	}
	return l
}

func wantLook(t *testing.T, call string, c *Consumer, want look) {
	t.Helper()
	if is := lookAt(c); !reflect.DeepEqual(is, want) {
		t.Errorf("%s: the consumer is %+v, want %+v", call, is, want)
	}
}

// wantSeq wants that the message of that number is delivered, the nth time.
func wantSeq(t *testing.T, c *Consumer, st *store.Store, now, seq, nth int) {
	t.Helper()
	if d, e := c.Next(st, now); d.Seq != seq || d.Nth != nth || e != api.OK {
		t.Errorf("Next(%d): %+v, %d, want message %d, the delivery %d of it", now, d, e, seq, nth)
	}
}

func wantDelivery(t *testing.T, c *Consumer, st *store.Store, now int, want api.Delivery) {
	t.Helper()
	if d, e := c.Next(st, now); d != want || e != api.OK {
		t.Errorf("Next(%d): %+v, %d, want %+v", now, d, e, want)
	}
}

// wantError wants an error alone, and doesn't ask for what went ahead of it.
func wantError(t *testing.T, c *Consumer, st *store.Store, now int, want api.Errno) {
	t.Helper()
	if d, e := c.Next(st, now); d != (api.Delivery{}) || e != want {
		t.Errorf("Next(%d): %+v, %d, want error %d", now, d, e, want)
	}
}

// wantRefused wants an error, and that nothing changes.
func wantRefused(t *testing.T, c *Consumer, st *store.Store, now int, want api.Errno) {
	t.Helper()
	was := lookAt(c)
	wantError(t, c, st, now, want)
	wantLook(t, "a refused Next", c, was)
}

func wantAnswered(t *testing.T, c *Consumer, now, seq, sort, n int) {
	t.Helper()
	if e := c.Answer(now, seq, api.Answer{Sort: sort, N: n}); e != api.OK {
		t.Errorf("Answer(%d, %d, %d %d): %d", now, seq, sort, n, e)
	}
}

func wantNotAnswered(t *testing.T, c *Consumer, now, seq, sort, n int, want api.Errno) {
	t.Helper()
	was := lookAt(c)
	if e := c.Answer(now, seq, api.Answer{Sort: sort, N: n}); e != want {
		t.Errorf("Answer(%d, %d, %d %d): %d, want %d", now, seq, sort, n, e, want)
	}
	wantLook(t, "a refused Answer", c, was)
}

func wantInfo(t *testing.T, c *Consumer, want api.Info) {
	t.Helper()
	if x := c.Info(); x != want {
		t.Errorf("Info: %+v, want %+v", x, want)
	}
}

func wantDue(t *testing.T, c *Consumer, want int) {
	t.Helper()
	if due := c.Due(); due != want {
		t.Errorf("Due: %d, want %d", due, want)
	}
}

// wantDone wants that, of the numbers up to a few behind the place, these alone are done.
func wantDone(t *testing.T, c *Consumer, want ...int) {
	t.Helper()
	for seq := 1; seq <= c.Info().Last+3; seq++ {
		if is := c.Done(seq); is != slices.Contains(want, seq) {
			t.Errorf("Done(%d): %t", seq, is)
		}
	}
}

func wantPlace(t *testing.T, x api.Taker, st *store.Store, want int) {
	t.Helper()
	c := newConsumer(t, x, st)
	wantInfo(t, c, api.Info{Floor: want - 1, Last: want - 1})
	wantDue(t, c, none)
	if c.Done(want) || !c.Done(want-1) {
		t.Errorf("Done of a new one: %t, %t", c.Done(want), c.Done(want-1))
	}
}

func from(from, start int) api.Taker {
	return asking(func(x *api.Taker) { x.From, x.Start = from, start })
}

func TestPlaceP27(t *testing.T) {
	st := storeOf(t, "a.x", "b", "a.y", "b", "b")
	wantPlace(t, from(api.FromAll, 0), st, 1)
	wantPlace(t, from(api.FromLast, 0), st, 3)
	wantPlace(t, from(api.FromNew, 0), st, 6)
	for _, start := range []int{1, 2, 6, 99, 999999999} {
		wantPlace(t, from(api.FromSeq, start), st, start)
	}
}

// The last number is that of the store, not of its last message.
func TestPlaceBehindTheLastNumberP27(t *testing.T) {
	st := storeOf(t, "a.x", "a.y", "a.z")
	erase(t, st, 3)
	wantPlace(t, from(api.FromLast, 0), st, 2)
	wantPlace(t, from(api.FromNew, 0), st, 4)
	mark(t, st, 8)
	wantPlace(t, from(api.FromLast, 0), st, 2)
	wantPlace(t, from(api.FromNew, 0), st, 9)
	erase(t, st, 1, 2)
	wantPlace(t, from(api.FromAll, 0), st, 1)
	wantPlace(t, from(api.FromLast, 0), st, 9)
	wantPlace(t, from(api.FromNew, 0), st, 9)
	mark(t, st, api.MaxSeq)
	wantPlace(t, from(api.FromLast, 0), st, api.MaxSeq+1)
	wantPlace(t, from(api.FromNew, 0), st, api.MaxSeq+1)
}

func TestPlaceWithoutMessagesP27(t *testing.T) {
	for _, st := range []*store.Store{store.New(), {}} {
		wantPlace(t, from(api.FromAll, 0), st, 1)
		wantPlace(t, from(api.FromLast, 0), st, 1)
		wantPlace(t, from(api.FromNew, 0), st, 1)
		wantPlace(t, from(api.FromSeq, 7), st, 7)
	}
	st := storeOf(t, "b", "b.a", "a.b.c")
	wantPlace(t, from(api.FromAll, 0), st, 1)
	wantPlace(t, from(api.FromLast, 0), st, 4)
}

// A place is one from which on messages are taken: that of FromLast has its message itself.
func TestFirstDeliveryP27P28(t *testing.T) {
	subjects := []string{"a.x", "b", "a.y", "b", "b", "a.z"}
	for _, x := range []struct {
		plan api.Taker
		want []int
	}{
		{from(api.FromAll, 0), []int{1, 3, 6}},
		{from(api.FromLast, 0), []int{3, 6}},
		{from(api.FromNew, 0), []int{6}},
		{from(api.FromSeq, 1), []int{1, 3, 6}},
		{from(api.FromSeq, 2), []int{3, 6}},
		{from(api.FromSeq, 3), []int{3, 6}},
		{from(api.FromSeq, 4), []int{6}},
		{from(api.FromSeq, 6), []int{6}},
		{from(api.FromSeq, 7), nil},
	} {
		st := storeOf(t, subjects[:5]...)
		c := newConsumer(t, x.plan, st)
		apply(t, st, message(6, subjects[5]))
		for i, seq := range x.want {
			wantDelivery(t, c, st, 0, api.Delivery{Seq: seq, Subject: subjects[seq-1], Data: "d" + strconv.Itoa(seq), Count: i + 1, Nth: 1, Left: len(x.want) - i - 1})
		}
		wantRefused(t, c, st, 0, api.ErrNone)
	}
}

func TestNewErrorsP1P27(t *testing.T) {
	st := storeOf(t, "a.x")
	for _, x := range []struct {
		change func(x *api.Taker)
		want   api.Errno
	}{
		{func(x *api.Taker) { x.Name = "" }, api.ErrSyntax},
		{func(x *api.Taker) { x.Name = "C" }, api.ErrSyntax},
		{func(x *api.Taker) { x.Filter = "" }, api.ErrSyntax},
		{func(x *api.Taker) { x.Filter = ">.a" }, api.ErrSyntax},
		{func(x *api.Taker) { x.Filter = "a.b.c.d.e.f.g.h.i" }, api.ErrLarge},
		{func(x *api.Taker) { x.Backoff = []int{1, 2, 3, 4, 5, 6} }, api.ErrLarge},
		{func(x *api.Taker) { x.From = 4 }, api.ErrArg},
		{func(x *api.Taker) { x.From = math.MinInt }, api.ErrArg},
		{func(x *api.Taker) { x.From = api.FromSeq }, api.ErrArg},
		{func(x *api.Taker) { x.From, x.Start = api.FromSeq, 1000000000 }, api.ErrArg},
		{func(x *api.Taker) { x.Start = 1 }, api.ErrArg},
		{func(x *api.Taker) { x.Ack = 3 }, api.ErrArg},
		{func(x *api.Taker) { x.Ack = api.AckNone }, api.ErrArg},
		{func(x *api.Taker) { x.Wait = 0 }, api.ErrArg},
		{func(x *api.Taker) { x.Backoff = []int{0} }, api.ErrArg},
		{func(x *api.Taker) { x.Most = 21 }, api.ErrArg},
		{func(x *api.Taker) { x.Pending = 51 }, api.ErrArg},
		{func(x *api.Taker) { x.Name, x.Wait = "C", 0 }, api.ErrSyntax},
		{func(x *api.Taker) { *x = api.Taker{} }, api.ErrSyntax},
	} {
		plan := asking(x.change)
		if c, e := New(plan, st); c != nil || e != x.want {
			t.Errorf("New(%+v): %v, %d, want %d", plan, c, e, x.want)
		}
	}
}

func TestTakerP27(t *testing.T) {
	for _, x := range []api.Taker{
		silent(),
		asking(nil),
		{Name: "c1", Filter: ">", From: api.FromSeq, Start: 7, Ack: api.AckAll, Wait: 9, Backoff: []int{1, 2}, Most: 20, Pending: 50, Push: true},
	} {
		c := newConsumer(t, x, store.New())
		if y := c.Taker(); !reflect.DeepEqual(x, y) {
			t.Errorf("Taker: %+v, want %+v", y, x)
		}
	}
}

func TestTakerIsNewMemoryP2P27(t *testing.T) {
	room := []int{3, 4, 77, 77}
	c := newConsumer(t, asking(func(x *api.Taker) { x.Backoff = room[:2] }), store.New())
	room[0] = 9
	for range 2 {
		x := c.Taker()
		if !slices.Equal(x.Backoff, []int{3, 4}) {
			t.Errorf("Taker: %+v", x)
		}
		all := x.Backoff[:cap(x.Backoff)]
		for i := range all {
			all[i] = 8
		}
	}
	if !slices.Equal(room, []int{9, 4, 77, 77}) {
		t.Errorf("what was handed in changed: %v", room)
	}
}

// Nothing is kept of the store: a crash puts a new one in its place.
func TestStoreIsHandedInEachTimeP27P28(t *testing.T) {
	st := storeOf(t, "a.x", "a.y")
	c := newConsumer(t, asking(nil), st)
	wantSeq(t, c, st, 0, 1, 1)
	other := storeOf(t, "a.other", "b", "a.z")
	wantDelivery(t, c, other, 0, api.Delivery{Seq: 3, Subject: "a.z", Data: "d3", Count: 2, Nth: 1})
	wantDelivery(t, c, other, 5, api.Delivery{Seq: 1, Subject: "a.other", Data: "d1", Count: 3, Nth: 2})
	wantRefused(t, c, store.New(), 0, api.ErrNone)
	wantInfo(t, c, api.Info{Last: 3, Count: 3, Pending: 2})
	wantError(t, c, st, 5, api.ErrNone)
	wantInfo(t, c, api.Info{Last: 3, Count: 3, Pending: 1})
}

// storeLook is what a store tells: a consumer only looks at it.
type storeLook struct {
	all  []api.Record
	sums api.Sums
}

func lookAtStore(st *store.Store) storeLook { return storeLook{st.All(), st.Sums()} }

func TestStoreStaysP2P27P28(t *testing.T) {
	st := storeOf(t, "a.x", "b", "a.y")
	mark(t, st, 9)
	was := lookAtStore(st)
	for _, f := range []int{api.FromAll, api.FromLast, api.FromNew} {
		c := newConsumer(t, from(f, 0), st)
		for now := range 12 {
			c.Next(st, now)
			c.Answer(now, 1, api.Answer{Sort: api.SAck})
		}
	}
	if is := lookAtStore(st); !reflect.DeepEqual(is, was) {
		t.Errorf("the store is %+v, want %+v", is, was)
	}
}

func wrongTimes() []int { return []int{-1, end + 1, math.MinInt, math.MaxInt} }

func TestTimesOfNextP1P28(t *testing.T) {
	st := storeOf(t, "a.x", "a.y")
	c := newConsumer(t, asking(func(x *api.Taker) { x.Pending = 1 }), st)
	for _, now := range wrongTimes() {
		wantRefused(t, c, st, now, api.ErrArg)
	}
	wantSeq(t, c, st, 0, 1, 1)
	// ErrArg is told ahead of ErrState, and of what is due, or gone.
	erase(t, st, 1)
	for _, now := range wrongTimes() {
		wantRefused(t, c, st, now, api.ErrArg)
	}
	wantSeq(t, c, st, end, 2, 1)
	wantDue(t, c, end+5)
	wantRefused(t, c, st, end, api.ErrState)
	// ErrArg is told ahead of ErrNone.
	wantAnswered(t, c, end, 2, api.SAck, 0)
	for _, now := range wrongTimes() {
		wantRefused(t, c, st, now, api.ErrArg)
	}
	wantRefused(t, c, st, end, api.ErrNone)
}

func TestNewMessagesP28(t *testing.T) {
	st := storeOf(t, "b", "a.x", "b", "b", "a.y", "a.z", "a.b.c")
	c := newConsumer(t, asking(nil), st)
	wantDelivery(t, c, st, 0, api.Delivery{Seq: 2, Subject: "a.x", Data: "d2", Count: 1, Nth: 1, Left: 2})
	wantInfo(t, c, api.Info{Floor: 1, Last: 2, Count: 1, Pending: 1})
	wantDelivery(t, c, st, 3, api.Delivery{Seq: 5, Subject: "a.y", Data: "d5", Count: 2, Nth: 1, Left: 1})
	wantInfo(t, c, api.Info{Floor: 1, Last: 5, Count: 2, Pending: 2})
	wantDelivery(t, c, st, 4, api.Delivery{Seq: 6, Subject: "a.z", Data: "d6", Count: 3, Nth: 1})
	wantInfo(t, c, api.Info{Floor: 1, Last: 6, Count: 3, Pending: 3})
	wantRefused(t, c, st, 4, api.ErrNone)
	// Now there is one, and the place didn't go behind it.
	apply(t, st, message(8, "a.w"))
	wantDelivery(t, c, st, 4, api.Delivery{Seq: 8, Subject: "a.w", Data: "d8", Count: 4, Nth: 1})
}

func TestMessagesThatWentP28(t *testing.T) {
	st := storeOf(t, "a.x", "a.y", "a.z", "a.w")
	c := newConsumer(t, asking(nil), st)
	erase(t, st, 1, 3)
	wantDelivery(t, c, st, 0, api.Delivery{Seq: 2, Subject: "a.y", Data: "d2", Count: 1, Nth: 1, Left: 1})
	erase(t, st, 4)
	wantRefused(t, c, st, 0, api.ErrNone)
	wantDelivery(t, c, st, 5, api.Delivery{Seq: 2, Subject: "a.y", Data: "d2", Count: 2, Nth: 2})
}

func TestAgainInTimeP28(t *testing.T) {
	st := storeOf(t, "a.x")
	c := newConsumer(t, asking(nil), st)
	wantSeq(t, c, st, 10, 1, 1)
	wantDue(t, c, 15)
	for _, now := range []int{10, 14, 0} {
		wantRefused(t, c, st, now, api.ErrNone)
	}
	wantDelivery(t, c, st, 15, api.Delivery{Seq: 1, Subject: "a.x", Data: "d1", Count: 2, Nth: 2})
	wantDue(t, c, 20)
	wantRefused(t, c, st, 19, api.ErrNone)
	wantSeq(t, c, st, 90, 1, 3)
	wantDue(t, c, 95)
	wantInfo(t, c, api.Info{Last: 1, Count: 3, Pending: 1})
}

func TestBackoffP28(t *testing.T) {
	st := storeOf(t, "a.x", "a.y")
	c := newConsumer(t, asking(func(x *api.Taker) { x.Backoff = []int{1, 10, 100000} }), st)
	now := 0
	for i, wait := range []int{1, 10, 100000, 100000, 100000} {
		wantSeq(t, c, st, now, 1, i+1)
		now += wait
		wantDue(t, c, now)
	}
	// Each has its own nth.
	wantSeq(t, c, st, now-1, 2, 1)
	wantDue(t, c, now)
	wantSeq(t, c, st, now, 1, 6)
	wantSeq(t, c, st, now, 2, 2)
	wantDue(t, c, now+10)
}

func TestAgainByNumberP28(t *testing.T) {
	st := storeOf(t, "a.1", "a.2", "a.3", "a.4")
	c := newConsumer(t, asking(nil), st)
	wantSeq(t, c, st, 9, 1, 1)
	wantSeq(t, c, st, 3, 2, 1)
	wantSeq(t, c, st, 1, 3, 1)
	wantDue(t, c, 6)
	// What is due comes ahead of what is new; 1 isn't due yet.
	wantDelivery(t, c, st, 8, api.Delivery{Seq: 2, Subject: "a.2", Data: "d2", Count: 4, Nth: 2, Left: 1})
	wantDelivery(t, c, st, 8, api.Delivery{Seq: 3, Subject: "a.3", Data: "d3", Count: 5, Nth: 2, Left: 1})
	wantSeq(t, c, st, 8, 4, 1)
	wantRefused(t, c, st, 12, api.ErrNone)
	wantSeq(t, c, st, 13, 2, 3)
	wantSeq(t, c, st, 14, 1, 2)
	wantSeq(t, c, st, 14, 3, 3)
	wantSeq(t, c, st, 14, 4, 2)
	wantRefused(t, c, st, 14, api.ErrNone)
	wantInfo(t, c, api.Info{Last: 4, Count: 10, Pending: 4})
}

func TestPendingThatWentP28(t *testing.T) {
	st := storeOf(t, "a.1", "a.2", "a.3", "a.4")
	c := newConsumer(t, asking(nil), st)
	for seq := 1; seq <= 4; seq++ {
		wantSeq(t, c, st, 0, seq, 1)
	}
	erase(t, st, 1, 3, 4)
	// Nothing is looked at ahead of its time.
	wantRefused(t, c, st, 4, api.ErrNone)
	wantInfo(t, c, api.Info{Last: 4, Count: 4, Pending: 4})
	// What is behind the one that is delivered isn't looked at.
	wantSeq(t, c, st, 5, 2, 2)
	wantInfo(t, c, api.Info{Floor: 1, Last: 4, Count: 5, Pending: 3})
	wantDone(t, c, 1)
	wantDue(t, c, 5)
	// With an error it isn't pending any more all the same.
	wantError(t, c, st, 5, api.ErrNone)
	wantInfo(t, c, api.Info{Floor: 1, Last: 4, Count: 5, Pending: 1})
	wantDone(t, c, 1, 3, 4)
	wantDue(t, c, 10)
	for _, seq := range []int{1, 3, 4} {
		wantNotAnswered(t, c, 5, seq, api.SAck, 0, api.ErrNone)
	}
}

// Those that went lie between some that stay, due and not.
func TestSomePendingThatWentP28(t *testing.T) {
	st := storeOf(t, "a.1", "a.2", "a.3", "a.4", "a.5", "a.6", "a.7")
	c := newConsumer(t, asking(nil), st)
	for seq := 1; seq <= 7; seq++ {
		now := 0
		if seq == 2 || seq == 4 || seq == 7 {
			now = 3
		}
		wantSeq(t, c, st, now, seq, 1)
	}
	erase(t, st, 1, 3, 4, 6)
	wantSeq(t, c, st, 5, 5, 2)
	wantDone(t, c, 1, 3)
	wantInfo(t, c, api.Info{Floor: 1, Last: 7, Count: 8, Pending: 5})
	wantSeq(t, c, st, 8, 2, 2)
	wantDone(t, c, 1, 3)
	wantSeq(t, c, st, 8, 7, 2)
	wantDone(t, c, 1, 3, 4, 6)
	wantInfo(t, c, api.Info{Floor: 1, Last: 7, Count: 10, Pending: 3})
	wantDue(t, c, 10)
}

func TestMostP28(t *testing.T) {
	for most := 1; most <= 20; most++ {
		st := storeOf(t, "a.x")
		c := newConsumer(t, asking(func(x *api.Taker) { x.Most = most }), st)
		now := 0
		for nth := 1; nth <= most; nth++ {
			wantSeq(t, c, st, now, 1, nth)
			wantRefused(t, c, st, now+4, api.ErrNone)
			now += 5
		}
		wantInfo(t, c, api.Info{Last: 1, Count: most, Pending: 1})
		wantError(t, c, st, now, api.ErrNone)
		wantInfo(t, c, api.Info{Floor: 1, Last: 1, Count: most})
		wantDone(t, c, 1)
		wantRefused(t, c, st, now+100, api.ErrNone)
	}
}

func TestNoMostP28(t *testing.T) {
	st := storeOf(t, "a.x")
	c := newConsumer(t, asking(nil), st)
	for n := range 100 {
		wantSeq(t, c, st, 5*n, 1, n+1)
	}
}

// A message that may not be delivered again makes way for the ones behind it.
func TestMostMakesWayP28(t *testing.T) {
	st := storeOf(t, "a.1", "a.2", "a.3")
	c := newConsumer(t, asking(func(x *api.Taker) { x.Most, x.Pending = 1, 2 }), st)
	wantSeq(t, c, st, 0, 1, 1)
	wantSeq(t, c, st, 0, 2, 1)
	wantRefused(t, c, st, 4, api.ErrState)
	wantSeq(t, c, st, 5, 3, 1)
	wantInfo(t, c, api.Info{Floor: 2, Last: 3, Count: 3, Pending: 1})
}

func TestMostPendingP28(t *testing.T) {
	for _, most := range []int{1, 2, 50} {
		st := storeOf(t, slices.Repeat([]string{"a.x"}, most+1)...)
		c := newConsumer(t, asking(func(x *api.Taker) { x.Pending = most }), st)
		for seq := 1; seq <= most; seq++ {
			wantSeq(t, c, st, 0, seq, 1)
		}
		wantRefused(t, c, st, 0, api.ErrState)
		// What is due is delivered all the same.
		wantSeq(t, c, st, 5, 1, 2)
		wantRefused(t, c, st, 4, api.ErrState)
		wantAnswered(t, c, 4, most, api.STerm, 0)
		wantSeq(t, c, st, 4, most+1, 1)
		wantRefused(t, c, st, 4, api.ErrState)
		// ErrState is told ahead of ErrNone: there is no message left.
		wantAnswered(t, c, 4, most+1, api.SAck, 0)
		wantRefused(t, c, st, 4, api.ErrNone)
	}
}

func TestNoBoundOfPendingP28(t *testing.T) {
	st := storeOf(t, slices.Repeat([]string{"a.x"}, api.MaxMsgs)...)
	c := newConsumer(t, asking(nil), st)
	for seq := 1; seq <= api.MaxMsgs; seq++ {
		wantDelivery(t, c, st, 0, api.Delivery{Seq: seq, Subject: "a.x", Data: "d" + strconv.Itoa(seq), Count: seq, Nth: 1, Left: api.MaxMsgs - seq})
	}
	wantInfo(t, c, api.Info{Last: api.MaxMsgs, Count: api.MaxMsgs, Pending: api.MaxMsgs})
}

// A pending one whose message went holds its place till it is due.
func TestPendingThatWentIsCountedP28(t *testing.T) {
	st := storeOf(t, "a.1", "a.2")
	c := newConsumer(t, asking(func(x *api.Taker) { x.Pending = 1 }), st)
	wantSeq(t, c, st, 0, 1, 1)
	erase(t, st, 1)
	wantRefused(t, c, st, 4, api.ErrState)
	wantSeq(t, c, st, 5, 2, 1)
	wantInfo(t, c, api.Info{Floor: 1, Last: 2, Count: 2, Pending: 1})
}

func TestLeftP28(t *testing.T) {
	st := storeOf(t, "a.1", "a.2", "b", "a.3")
	c := newConsumer(t, asking(nil), st)
	left := func(now, want int) {
		t.Helper()
		if d, e := c.Next(st, now); d.Left != want || e != api.OK {
			t.Errorf("Next(%d): %+v, %d, want %d left", now, d, e, want)
		}
	}
	left(0, 2)
	left(5, 2)
	apply(t, st, message(5, "b"))
	apply(t, st, message(6, "a.4"))
	left(10, 3)
	left(11, 2)
	// Those behind the place alone are counted, not those that are pending.
	left(15, 2)
	left(16, 2)
	erase(t, st, 4)
	left(17, 0)
	left(20, 0)
}

func TestLastNumberP28P29(t *testing.T) {
	st := store.New()
	apply(t, st, message(api.MaxSeq-1, "a.x"))
	apply(t, st, message(api.MaxSeq, "a.y"))
	c := newConsumer(t, asking(nil), st)
	wantDelivery(t, c, st, end, api.Delivery{Seq: end - 1, Subject: "a.x", Data: "d" + strconv.Itoa(end-1), Count: 1, Nth: 1, Left: 1})
	wantDelivery(t, c, st, end, api.Delivery{Seq: end, Subject: "a.y", Data: "d" + strconv.Itoa(end), Count: 2, Nth: 1})
	wantRefused(t, c, st, end, api.ErrNone)
	wantInfo(t, c, api.Info{Floor: end - 2, Last: end, Count: 2, Pending: 2})
	wantAnswered(t, c, end, end, api.SNak, 100000)
	wantAnswered(t, c, end, end-1, api.SNak, 100000)
	wantDue(t, c, end+100000)
	wantAnswered(t, c, end, end-1, api.SAck, 0)
	wantAnswered(t, c, end, end, api.SAck, 0)
	wantInfo(t, c, api.Info{Floor: end, Last: end, Count: 2})
}

func TestWithoutAcksP28P29(t *testing.T) {
	st := storeOf(t, "a.1", "b", "a.2")
	c := newConsumer(t, silent(), st)
	wantDelivery(t, c, st, 0, api.Delivery{Seq: 1, Subject: "a.1", Data: "d1", Count: 1, Nth: 1, Left: 1})
	wantInfo(t, c, api.Info{Floor: 1, Last: 1, Count: 1})
	wantDue(t, c, none)
	wantDone(t, c, 1)
	wantNotAnswered(t, c, 0, 1, api.SAck, 0, api.ErrNone)
	wantDelivery(t, c, st, 0, api.Delivery{Seq: 3, Subject: "a.2", Data: "d3", Count: 2, Nth: 1})
	wantDone(t, c, 1, 2, 3)
	wantRefused(t, c, st, end, api.ErrNone)
}

// pendingOf is a consumer with 4 pending messages, delivered at 0, and the store that has them.
func pendingOf(t *testing.T, change func(x *api.Taker)) (*Consumer, *store.Store) {
	t.Helper()
	st := storeOf(t, "a.1", "a.2", "b", "a.3", "a.4")
	c := newConsumer(t, asking(change), st)
	for _, seq := range []int{1, 2, 4, 5} {
		wantSeq(t, c, st, 0, seq, 1)
	}
	return c, st
}

func TestAckP29(t *testing.T) {
	c, st := pendingOf(t, nil)
	wantDone(t, c, 3)
	wantAnswered(t, c, 1, 4, api.SAck, 0)
	wantInfo(t, c, api.Info{Last: 5, Count: 4, Pending: 3})
	wantDone(t, c, 3, 4)
	wantAnswered(t, c, 1, 1, api.SAck, 0)
	wantInfo(t, c, api.Info{Floor: 1, Last: 5, Count: 4, Pending: 2})
	wantNotAnswered(t, c, 1, 1, api.SAck, 0, api.ErrNone)
	wantAnswered(t, c, 1, 2, api.SAck, 0)
	wantInfo(t, c, api.Info{Floor: 4, Last: 5, Count: 4, Pending: 1})
	wantAnswered(t, c, 1, 5, api.SAck, 0)
	wantInfo(t, c, api.Info{Floor: 5, Last: 5, Count: 4})
	wantDone(t, c, 1, 2, 3, 4, 5)
	wantDue(t, c, none)
	wantRefused(t, c, st, end, api.ErrNone)
}

func TestAckOfAllP29(t *testing.T) {
	all := func(x *api.Taker) { x.Ack = api.AckAll }
	c, st := pendingOf(t, all)
	wantAnswered(t, c, 1, 4, api.SAck, 0)
	wantInfo(t, c, api.Info{Floor: 4, Last: 5, Count: 4, Pending: 1})
	wantDone(t, c, 1, 2, 3, 4)
	for _, seq := range []int{1, 2, 3, 4} {
		wantNotAnswered(t, c, 1, seq, api.SAck, 0, api.ErrNone)
	}
	wantSeq(t, c, st, 5, 5, 2)

	first, _ := pendingOf(t, all)
	wantAnswered(t, first, 1, 1, api.SAck, 0)
	wantInfo(t, first, api.Info{Floor: 1, Last: 5, Count: 4, Pending: 3})

	last, _ := pendingOf(t, all)
	wantAnswered(t, last, 1, 5, api.SAck, 0)
	wantInfo(t, last, api.Info{Floor: 5, Last: 5, Count: 4})
}

func TestTermP29(t *testing.T) {
	// With AckAll, too, the one message alone.
	for _, ack := range []int{api.AckExplicit, api.AckAll} {
		c, st := pendingOf(t, func(x *api.Taker) { x.Ack = ack })
		wantAnswered(t, c, 1, 4, api.STerm, 0)
		wantInfo(t, c, api.Info{Last: 5, Count: 4, Pending: 3})
		wantDone(t, c, 3, 4)
		wantNotAnswered(t, c, 1, 4, api.STerm, 0, api.ErrNone)
		for _, seq := range []int{1, 2, 5} {
			wantSeq(t, c, st, 5, seq, 2)
		}
		wantRefused(t, c, st, 5, api.ErrNone)
	}
}

func TestNakP29(t *testing.T) {
	for _, ack := range []int{api.AckExplicit, api.AckAll} {
		c, st := pendingOf(t, func(x *api.Taker) { x.Ack = ack })
		wantAnswered(t, c, 2, 4, api.SNak, 0)
		wantDue(t, c, 2)
		wantRefused(t, c, st, 1, api.ErrNone)
		wantSeq(t, c, st, 2, 4, 2)
		wantDue(t, c, 5)
		wantAnswered(t, c, 2, 1, api.SNak, 100000)
		wantAnswered(t, c, 2, 4, api.SNak, 4)
		wantSeq(t, c, st, 5, 2, 2)
		wantSeq(t, c, st, 5, 5, 2)
		wantDue(t, c, 6)
		wantSeq(t, c, st, 6, 4, 3)
		for _, seq := range []int{2, 4, 5} {
			wantAnswered(t, c, 6, seq, api.SAck, 0)
		}
		// With AckAll the first one went with those.
		if ack == api.AckAll {
			wantDue(t, c, none)
			continue
		}
		wantDue(t, c, 100002)
		wantRefused(t, c, st, 100001, api.ErrNone)
		wantSeq(t, c, st, 100002, 1, 2)
	}
}

// An answer is no delivery: it takes nothing from what a message may have.
func TestNakAndMostP28P29(t *testing.T) {
	st := storeOf(t, "a.x")
	c := newConsumer(t, asking(func(x *api.Taker) { x.Most = 2 }), st)
	wantSeq(t, c, st, 0, 1, 1)
	for range 5 {
		wantAnswered(t, c, 0, 1, api.SNak, 0)
		wantAnswered(t, c, 0, 1, api.SWork, 0)
	}
	wantSeq(t, c, st, 5, 1, 2)
	wantAnswered(t, c, 5, 1, api.SNak, 0)
	wantInfo(t, c, api.Info{Last: 1, Count: 2, Pending: 1})
	wantError(t, c, st, 5, api.ErrNone)
	wantInfo(t, c, api.Info{Floor: 1, Last: 1, Count: 2})
}

func TestWorkP29(t *testing.T) {
	for _, ack := range []int{api.AckExplicit, api.AckAll} {
		st := storeOf(t, "a.x", "a.y")
		c := newConsumer(t, asking(func(x *api.Taker) { x.Ack, x.Backoff = ack, []int{3, 20} }), st)
		wantSeq(t, c, st, 0, 1, 1)
		wantAnswered(t, c, 2, 1, api.SWork, 0)
		wantDue(t, c, 5)
		wantSeq(t, c, st, 4, 2, 1)
		wantSeq(t, c, st, 5, 1, 2)
		wantAnswered(t, c, 6, 2, api.SWork, 0)
		wantDue(t, c, 9)
		wantSeq(t, c, st, 9, 2, 2)
		wantAnswered(t, c, 10, 1, api.SWork, 0)
		wantDue(t, c, 29)
		wantAnswered(t, c, 30, 2, api.SWork, 0)
		wantDue(t, c, 30)
		// Time is told from outside: it may go back.
		wantAnswered(t, c, 0, 2, api.SWork, 0)
		wantDue(t, c, 20)
		wantInfo(t, c, api.Info{Last: 2, Count: 4, Pending: 2})
	}
}

func TestWorkWithoutBackoffP29(t *testing.T) {
	c, _ := pendingOf(t, nil)
	for _, seq := range []int{1, 2, 4, 5} {
		wantDue(t, c, 5)
		wantAnswered(t, c, 10*seq, seq, api.SWork, 0)
	}
	wantDue(t, c, 15)
}

func TestWrongAnswersP1P29(t *testing.T) {
	c, _ := pendingOf(t, nil)
	sorts := []int{api.SAck, api.SNak, api.SWork, api.STerm}
	// Ahead of ErrNone, too: there is no message 3, 6.
	for _, seq := range []int{1, 5, 3, 6, 0, math.MinInt, math.MaxInt} {
		for _, sort := range sorts {
			for _, now := range wrongTimes() {
				wantNotAnswered(t, c, now, seq, sort, 0, api.ErrArg)
			}
			for _, n := range []int{-1, 100001, math.MinInt, math.MaxInt} {
				wantNotAnswered(t, c, 0, seq, sort, n, api.ErrArg)
			}
			for _, n := range []int{1, 100000} {
				if sort != api.SNak {
					wantNotAnswered(t, c, 0, seq, sort, n, api.ErrArg)
				}
			}
		}
		for _, sort := range []int{0, 5, -1, math.MinInt, math.MaxInt} {
			wantNotAnswered(t, c, 0, seq, sort, 0, api.ErrArg)
		}
	}
	for _, seq := range []int{3, 6, 0, -1, math.MinInt, math.MaxInt} {
		for _, sort := range sorts {
			wantNotAnswered(t, c, 0, seq, sort, 0, api.ErrNone)
			wantNotAnswered(t, c, end, seq, sort, 0, api.ErrNone)
		}
		wantNotAnswered(t, c, 0, seq, api.SNak, 100000, api.ErrNone)
	}
}

// A message that the store has no more can be answered as long as it is pending.
func TestAnswerOfWhatWentP29(t *testing.T) {
	c, st := pendingOf(t, nil)
	erase(t, st, 1, 2, 4, 5)
	wantAnswered(t, c, 0, 2, api.SAck, 0)
	wantAnswered(t, c, 0, 4, api.STerm, 0)
	wantAnswered(t, c, 0, 1, api.SNak, 9)
	wantAnswered(t, c, 7, 5, api.SWork, 0)
	wantDue(t, c, 9)
	wantInfo(t, c, api.Info{Last: 5, Count: 4, Pending: 2})
}

func TestDoneP1P29(t *testing.T) {
	st := storeOf(t, "a.1", "b", "a.2", "a.3", "a.4")
	c := newConsumer(t, asking(nil), st)
	wantDone(t, c)
	wantSeq(t, c, st, 0, 1, 1)
	wantDone(t, c)
	wantSeq(t, c, st, 0, 3, 1)
	wantDone(t, c, 2)
	wantAnswered(t, c, 0, 3, api.SAck, 0)
	wantDone(t, c, 2, 3)
	wantAnswered(t, c, 0, 1, api.SAck, 0)
	wantDone(t, c, 1, 2, 3)
	for _, seq := range []int{0, -1, math.MinInt} {
		if !c.Done(seq) {
			t.Errorf("Done(%d): it is below the place, and not pending", seq)
		}
	}
	for _, seq := range []int{4, 5, 6, math.MaxInt} {
		if c.Done(seq) {
			t.Errorf("Done(%d): it isn't below the place", seq)
		}
	}
}

// What lies ahead of the first place is done.
func TestFloorP29(t *testing.T) {
	st := storeOf(t, "a.1", "a.2", "a.3", "a.4", "a.5")
	c := newConsumer(t, from(api.FromSeq, 3), st)
	wantInfo(t, c, api.Info{Floor: 2, Last: 2})
	wantSeq(t, c, st, 0, 3, 1)
	wantInfo(t, c, api.Info{Floor: 2, Last: 3, Count: 1, Pending: 1})
	wantSeq(t, c, st, 0, 4, 1)
	wantAnswered(t, c, 0, 4, api.SAck, 0)
	wantInfo(t, c, api.Info{Floor: 2, Last: 4, Count: 2, Pending: 1})
	wantAnswered(t, c, 0, 3, api.SAck, 0)
	wantInfo(t, c, api.Info{Floor: 4, Last: 4, Count: 2})
	wantDone(t, c, 1, 2, 3, 4)
}

func TestDueP29(t *testing.T) {
	c, _ := pendingOf(t, nil)
	wantDue(t, c, 5)
	wantAnswered(t, c, 0, 1, api.SNak, 9)
	wantAnswered(t, c, 0, 2, api.SNak, 8)
	wantAnswered(t, c, 0, 4, api.SNak, 7)
	wantAnswered(t, c, 0, 5, api.SNak, 8)
	wantDue(t, c, 7)
	wantAnswered(t, c, 0, 4, api.SAck, 0)
	wantDue(t, c, 8)
	wantAnswered(t, c, 0, 5, api.SNak, 0)
	wantDue(t, c, 0)
	wantAnswered(t, c, 0, 5, api.STerm, 0)
	wantAnswered(t, c, 0, 2, api.STerm, 0)
	wantDue(t, c, 9)
	wantAnswered(t, c, 0, 1, api.STerm, 0)
	wantDue(t, c, none)
}

// A Consumer that New didn't make has a plan that takes nothing, but answers.
func TestZeroConsumerAnswersP1(t *testing.T) {
	st := storeOf(t, "a.x")
	calls := []func(c *Consumer){
		func(c *Consumer) {
			if d, e := c.Next(st, 0); d != (api.Delivery{}) || e == api.OK {
				t.Errorf("Next: %+v, %d", d, e)
			}
		},
		func(c *Consumer) { wantNotAnswered(t, c, 0, 1, api.SAck, 0, api.ErrNone) },
		func(c *Consumer) { c.Done(1) },
		func(c *Consumer) { wantDue(t, c, none) },
		func(c *Consumer) { c.Info() },
		func(c *Consumer) {
			if x := c.Taker(); !reflect.DeepEqual(x, api.Taker{}) {
				t.Errorf("Taker: %+v", x)
			}
		},
	}
	for _, first := range calls {
		c := &Consumer{}
		first(c)
		for _, call := range calls {
			call(c)
		}
	}
}

func placeOf(s string) uintptr { return uintptr(unsafe.Pointer(unsafe.StringData(s))) }

// A text that can't be written to can still share memory with another one: its place tells.
func sharesMemory(a, b string) bool {
	return a != "" && b != "" && placeOf(a) < placeOf(b)+uintptr(len(b)) && placeOf(b) < placeOf(a)+uintptr(len(a))
}

func TestTextsAreNewMemoryP2(t *testing.T) {
	given := asking(func(x *api.Taker) { x.Name, x.Filter = strings.Repeat("c", 10), "a.b.c.*" })
	r := api.Record{Kind: api.KMessage, Seq: 1, Subject: "a.b.c.d", Header: strings.Repeat("h", 40), Data: strings.Repeat("d", 40)}
	st := store.New()
	apply(t, st, r)
	c := newConsumer(t, given, st)
	texts := []string{given.Name, given.Filter, r.Subject, r.Data, c.plan.Name, c.plan.Filter}
	for n := range 3 {
		x := c.Taker()
		d, _ := c.Next(st, 5*n)
		kept, _ := st.Get(1)
		texts = append(texts, x.Name, x.Filter, d.Subject, d.Data, kept.Subject, kept.Data)
	}
	for i, a := range texts {
		for j, b := range texts[:i] {
			if sharesMemory(a, b) {
				t.Errorf("texts %d and %d, %.20q and %.20q, share memory", i, j, a, b)
			}
		}
	}
}

// plainConsumer is a consumer told by the document's words: what is pending lies in maps, and all
// else is found by going through all messages, and all numbers.
type plainConsumer struct {
	plan  api.Taker
	place int
	nth   map[int]int
	due   map[int]int
	count int
}

func (p *plainConsumer) takes(m api.Record) bool {
	is, _ := subject.Match(p.plan.Filter, m.Subject)
	return is
}

func newPlain(x api.Taker, st *store.Store) *plainConsumer {
	p := &plainConsumer{plan: x, nth: map[int]int{}, due: map[int]int{}}
	switch x.From {
	case api.FromAll:
		p.place = 1
	case api.FromSeq:
		p.place = x.Start
	default:
		p.place = st.Sums().Last + 1
		for _, m := range st.All() {
			if x.From == api.FromLast && p.takes(m) {
				p.place = m.Seq
			}
		}
	}
	return p
}

func (p *plainConsumer) forget(seq int) {
	delete(p.nth, seq)
	delete(p.due, seq)
}

func (p *plainConsumer) deliver(st *store.Store, now int, m api.Record) api.Delivery {
	p.nth[m.Seq]++
	p.due[m.Seq] = now + taker.Wait(p.plan, p.nth[m.Seq])
	p.count++
	d := api.Delivery{Seq: m.Seq, Subject: m.Subject, Data: m.Data, Count: p.count, Nth: p.nth[m.Seq]}
	for _, other := range st.All() {
		if other.Seq >= p.place && p.takes(other) {
			d.Left++
		}
	}
	if p.plan.Ack == api.AckNone {
		p.forget(m.Seq)
	}
	return d
}

func (p *plainConsumer) next(st *store.Store, now int) (api.Delivery, api.Errno) {
	if now < 0 || now > end {
		return api.Delivery{}, api.ErrArg
	}
	for _, seq := range slices.Sorted(maps.Keys(p.due)) {
		if p.due[seq] > now {
			continue
		}
		m, e := st.Get(seq)
		if e == api.OK && (p.plan.Most == 0 || p.nth[seq] < p.plan.Most) {
			return p.deliver(st, now, m), api.OK
		}
		p.forget(seq)
	}
	if p.plan.Pending != 0 && len(p.due) == p.plan.Pending {
		return api.Delivery{}, api.ErrState
	}
	for _, m := range st.All() {
		if m.Seq >= p.place && p.takes(m) {
			p.place = m.Seq + 1
			return p.deliver(st, now, m), api.OK
		}
	}
	return api.Delivery{}, api.ErrNone
}

func (p *plainConsumer) answer(now, seq int, a api.Answer) api.Errno {
	most := 0
	if a.Sort == api.SNak {
		most = 100000
	}
	if now < 0 || now > end || a.Sort < 1 || a.Sort > 4 || a.N < 0 || a.N > most {
		return api.ErrArg
	}
	if _, has := p.due[seq]; !has {
		return api.ErrNone
	}
	if a.Sort == api.SAck && p.plan.Ack == api.AckAll {
		for other := range seq {
			p.forget(other)
		}
	}
	if a.Sort == api.SAck || a.Sort == api.STerm {
		p.forget(seq)
	}
	if a.Sort == api.SNak {
		p.due[seq] = now + a.N
	}
	if a.Sort == api.SWork {
		p.due[seq] = now + taker.Wait(p.plan, p.nth[seq])
	}
	return api.OK
}

func (p *plainConsumer) done(seq int) bool {
	_, has := p.due[seq]
	return seq < p.place && !has
}

func (p *plainConsumer) leastDue() int {
	if len(p.due) == 0 {
		return none
	}
	return slices.Min(slices.Collect(maps.Values(p.due)))
}

func (p *plainConsumer) info() api.Info {
	floor := 0
	for p.done(floor + 1) {
		floor++
	}
	return api.Info{Floor: floor, Last: p.place - 1, Count: p.count, Pending: len(p.due)}
}

func oneOf[T any](source *rand.Rand, list ...T) T { return list[source.Intn(len(list))] }

func somePlan(source *rand.Rand) api.Taker {
	x := api.Taker{Name: "c", Filter: oneOf(source, "a", "a.*", ">", "*.b", "a.>"), From: source.Intn(4), Ack: source.Intn(3)}
	if x.From == api.FromSeq {
		x.Start = 1 + source.Intn(20)
	}
	if x.Ack == api.AckNone {
		return x
	}
	x.Wait = 1 + source.Intn(12)
	x.Most = oneOf(source, 0, 0, 1, 2, 3)
	x.Pending = oneOf(source, 0, 1, 2, 4)
	for range oneOf(source, 0, 0, 1, 3) {
		x.Backoff = append(x.Backoff, 1+source.Intn(12))
	}
	return x
}

// changeStore has a few messages at any time, so that a consumer often comes to their end.
func changeStore(source *rand.Rand, st *store.Store) {
	sums := st.Sums()
	switch source.Intn(6) {
	case 0:
		st.Apply(api.Record{Kind: api.KErase, Seq: max(1, sums.Last-source.Intn(9))})
	case 1:
		if source.Intn(6) == 0 {
			st.Apply(api.Record{Kind: api.KPurge, Seq: max(1, sums.Last-source.Intn(9)), Subject: oneOf(source, "a.*", ">")})
		}
	case 2:
		if source.Intn(4) == 0 {
			st.Apply(api.Record{Kind: api.KMark, Seq: sums.Last + 1 + source.Intn(3)})
		}
	default:
		st.Apply(message(sums.Last+1, oneOf(source, "a", "a.b", "a.c", "b", "b.b", "a.b.c")))
	}
}

func someAnswer(source *rand.Rand) api.Answer {
	a := api.Answer{Sort: 1 + source.Intn(4)}
	if a.Sort == api.SNak {
		a.N = source.Intn(10)
	}
	switch source.Intn(30) {
	case 0:
		a.Sort = oneOf(source, 0, 5, -3)
	case 1:
		a.N = oneOf(source, -1, 1, 100000, 100001)
	}
	return a
}

func someTime(source *rand.Rand, now int) int {
	if source.Intn(40) == 0 {
		return oneOf(source, -1, end+1)
	}
	return now
}

// step does one call at both, and tells its error, and what was delivered.
func step(t *testing.T, source *rand.Rand, now int, st *store.Store, c *Consumer, p *plainConsumer) (api.Delivery, api.Errno) {
	t.Helper()
	now = someTime(source, now)
	if source.Intn(2) == 0 {
		d, e := c.Next(st, now)
		if wanted, want := p.next(st, now); d != wanted || e != want {
			t.Errorf("Next(%d): %+v, %d, want %+v, %d", now, d, e, wanted, want)
		}
		return d, e
	}
	seq, a := max(0, p.place-source.Intn(6)), someAnswer(source)
	if seqs := slices.Sorted(maps.Keys(p.due)); len(seqs) > 0 && source.Intn(2) == 0 {
		seq = oneOf(source, seqs...)
	}
	e := c.Answer(now, seq, a)
	if want := p.answer(now, seq, a); e != want {
		t.Errorf("Answer(%d, %d, %+v): %d, want %d", now, seq, a, e, want)
	}
	return api.Delivery{}, e
}

func wantSame(t *testing.T, c *Consumer, p *plainConsumer) {
	t.Helper()
	wantInfo(t, c, p.info())
	wantDue(t, c, p.leastDue())
	for seq := -1; seq <= p.place+2; seq++ {
		if is := c.Done(seq); is != p.done(seq) {
			t.Errorf("Done(%d): %t", seq, is)
		}
	}
	if x := c.Taker(); !reflect.DeepEqual(x, p.plan) {
		t.Errorf("Taker: %+v, want %+v", x, p.plan)
	}
}

// history is what a consumer had of deliveries, held to what it may have.
type history struct {
	times map[int]int
	last  int
	count int
}

// wantTheirs wants that first deliveries come in order, none comes once it is done with, and none
// more often than it may.
func (h *history) wantTheirs(t *testing.T, d api.Delivery, doneAhead bool, plan api.Taker) {
	t.Helper()
	h.times[d.Seq]++
	h.count++
	if d.Nth != h.times[d.Seq] || d.Count != h.count {
		t.Errorf("%+v: it is the delivery %d of its message, %d of all", d, h.times[d.Seq], h.count)
	}
	if d.Nth == 1 && d.Seq <= h.last || d.Nth > 1 && doneAhead {
		t.Errorf("%+v: not in order, or done with", d)
	}
	if plan.Most != 0 && d.Nth > plan.Most {
		t.Errorf("%+v: more often than %d", d, plan.Most)
	}
	h.last = max(h.last, d.Seq)
}

// Two consumers of one store are used in turn, so that it is seen that neither changes the other.
func TestManyCallsP2P27P28P29(t *testing.T) {
	source := rand.New(rand.NewSource(12))
	answered, agains := map[api.Errno]int{}, 0
	for range 300 {
		st := store.New()
		for range source.Intn(15) {
			changeStore(source, st)
		}
		var consumers [2]*Consumer
		var plain [2]*plainConsumer
		var had [2]history
		for i := range consumers {
			x := somePlan(source)
			consumers[i], plain[i], had[i] = newConsumer(t, x, st), newPlain(x, st), history{times: map[int]int{}}
		}
		now := 0
		for n := range 120 {
			// Time is told from outside: it may go back, too.
			now = max(0, now+source.Intn(6)-1)
			changeStore(source, st)
			i := source.Intn(2)
			was := map[int]bool{}
			for seq := range plain[i].place {
				was[seq] = plain[i].done(seq)
			}
			d, e := step(t, source, now, st, consumers[i], plain[i])
			answered[e]++
			if d.Seq != 0 {
				had[i].wantTheirs(t, d, was[d.Seq], plain[i].plan)
			}
			if d.Nth > 1 {
				agains++
			}
			for j, p := range plain {
				wantSame(t, consumers[j], p)
			}
			if t.Failed() {
				t.Fatalf("step %d of %+v", n, plain[i].plan)
			}
		}
	}
	for _, e := range []api.Errno{api.OK, api.ErrArg, api.ErrNone, api.ErrState} {
		if answered[e] < 500 {
			t.Errorf("error %d was answered %d times only", e, answered[e])
		}
	}
	if agains < 500 {
		t.Errorf("a message was delivered again %d times only", agains)
	}
}
