package server

import (
	"math/rand"
	"reflect"
	"slices"
	"strconv"
	"strings"
	"testing"

	"rillbook/api"
	"rillbook/consumer"
	"rillbook/plan"
	"rillbook/pulls"
	"rillbook/stream"
	"rillbook/subject"
	"rillbook/taker"
)

// calls are what both a server and a plain one answer.
type calls interface {
	Stream(text string, room, size int) api.Errno
	Drop(name string) api.Errno
	Take(name, text string) api.Errno
	Leave(name, who string) api.Errno
	Publish(x api.Post) (string, int, bool, api.Errno)
	Next(name, who string) (api.Delivery, api.Errno)
	Answer(name, who string, seq int, a api.Answer) api.Errno
	Pull(name, who string, p api.Pull) api.Errno
	Serve(name, who string) ([]api.Delivery, api.Errno)
	Erase(name string, seq int) api.Errno
	Purge(name, filter string, below int) (int, api.Errno)
	Compact(name string) api.Errno
	Tick(n int) api.Errno
	Crash(keep int)
	All(name string) ([]api.Record, api.Errno)
	Sums(name string) (api.Sums, api.Errno)
	Info(name, who string) (api.Info, api.Errno)
}

// plainServer is a server told by the document's words, over streams, consumers and queues of its own:
// they lie in lists, and what is swept is found by counting.
type plainServer struct {
	streams []*plainSource
	time    int
}

type plainSource struct {
	plan      api.Plan
	stream    *stream.Stream
	consumers []*plainMember
}

type plainMember struct {
	plan     api.Taker
	consumer *consumer.Consumer
	queue    *pulls.Queue
}

func (p *plainServer) of(name string) *plainSource {
	for _, st := range p.streams {
		if st.plan.Name == name {
			return st
		}
	}
	return nil
}

func (p *plainServer) both(name, who string) (*plainSource, *plainMember) {
	if st := p.of(name); st != nil {
		for _, c := range st.consumers {
			if c.plan.Name == who {
				return st, c
			}
		}
	}
	return nil, nil
}

func (p *plainServer) Stream(text string, room, size int) api.Errno {
	x, e := plan.Parse(text)
	if e != api.OK {
		return e
	}
	if p.of(x.Name) != nil {
		return api.ErrName
	}
	if len(p.streams) == 4 {
		return api.ErrFull
	}
	var taken []string
	for _, st := range p.streams {
		taken = append(taken, st.plan.Filters...)
	}
	for n := range len(taken) * len(x.Filters) {
		if is, _ := subject.Overlap(taken[n%len(taken)], x.Filters[n/len(taken)]); is {
			return api.ErrMatch
		}
	}
	st, e := stream.New(x, room, size)
	if e == api.OK {
		p.streams = append(p.streams, &plainSource{plan: x, stream: st})
		slices.SortFunc(p.streams, func(a, b *plainSource) int { return strings.Compare(a.plan.Name, b.plan.Name) })
	}
	return e
}

func (p *plainServer) Drop(name string) api.Errno {
	if p.of(name) == nil {
		return api.ErrNone
	}
	p.streams = slices.DeleteFunc(p.streams, func(st *plainSource) bool { return st.plan.Name == name })
	return api.OK
}

func (p *plainServer) Take(name, text string) api.Errno {
	x, e := taker.Parse(text)
	if e != api.OK {
		return e
	}
	st := p.of(name)
	if st == nil {
		return api.ErrNone
	}
	if _, c := p.both(name, x.Name); c != nil {
		return api.ErrName
	}
	if len(st.consumers) == 6 {
		return api.ErrFull
	}
	if st.plan.Keep == 2 && (x.Ack != api.AckExplicit || x.From != api.FromAll) {
		return api.ErrArg
	}
	for _, c := range st.consumers {
		if is, _ := subject.Overlap(c.plan.Filter, x.Filter); is && st.plan.Keep == 2 {
			return api.ErrMatch
		}
	}
	c, e := consumer.New(x, st.stream.Store())
	if e == api.OK {
		st.consumers = append(st.consumers, &plainMember{x, c, pulls.New()})
		st.sweep()
	}
	return e
}

func (p *plainServer) Leave(name, who string) api.Errno {
	st, c := p.both(name, who)
	if c == nil {
		return api.ErrNone
	}
	st.consumers = slices.DeleteFunc(st.consumers, func(other *plainMember) bool { return other == c })
	st.sweep()
	return api.OK
}

func (st *plainSource) goes(m api.Record) bool {
	takers, done := 0, 0
	for _, c := range st.consumers {
		if is, _ := subject.Match(c.plan.Filter, m.Subject); !is {
			continue
		}
		takers++
		if c.consumer.Done(m.Seq) {
			done++
		}
	}
	return st.plan.Keep == 1 && done == takers || st.plan.Keep == 2 && done > 0
}

func (st *plainSource) sweep() {
	for _, m := range st.stream.Store().All() {
		if st.goes(m) && st.stream.Erase(m.Seq) != api.OK {
			break
		}
	}
}

func (p *plainServer) Publish(x api.Post) (string, int, bool, api.Errno) {
	if e := subject.Subject(x.Subject); e != api.OK {
		return "", 0, false, e
	}
	for _, st := range p.streams {
		for _, f := range st.plan.Filters {
			if is, _ := subject.Match(f, x.Subject); is {
				seq, again, e := st.stream.Publish(p.time, x)
				st.sweep()
				return st.plan.Name, seq, again, e
			}
		}
	}
	return "", 0, false, api.ErrMatch
}

func (p *plainServer) Next(name, who string) (api.Delivery, api.Errno) {
	st, c := p.both(name, who)
	if c == nil {
		return api.Delivery{}, api.ErrNone
	}
	d, e := c.consumer.Next(st.stream.Store(), p.time)
	st.sweep()
	return d, e
}

func (p *plainServer) Answer(name, who string, seq int, a api.Answer) api.Errno {
	st, c := p.both(name, who)
	if c == nil {
		return api.ErrNone
	}
	e := c.consumer.Answer(p.time, seq, a)
	st.sweep()
	return e
}

func (p *plainServer) Pull(name, who string, x api.Pull) api.Errno {
	_, c := p.both(name, who)
	if c == nil {
		return api.ErrNone
	}
	if c.plan.Push {
		return api.ErrState
	}
	return c.queue.Ask(p.time, x)
}

func (p *plainServer) Serve(name, who string) ([]api.Delivery, api.Errno) {
	st, c := p.both(name, who)
	if c == nil {
		return nil, api.ErrNone
	}
	var told []api.Delivery
	for {
		n, _ := c.queue.Waits(p.time)
		if c.plan.Push && len(told) == 200 || !c.plan.Push && n == 0 {
			break
		}
		d, e := c.consumer.Next(st.stream.Store(), p.time)
		if e != api.OK {
			c.queue.Idle(p.time)
			break
		}
		c.queue.Take(p.time)
		told = append(told, d)
	}
	st.sweep()
	return told, api.OK
}

func (p *plainServer) Erase(name string, seq int) api.Errno {
	if st := p.of(name); st != nil {
		return st.stream.Erase(seq)
	}
	return api.ErrNone
}

func (p *plainServer) Purge(name, filter string, below int) (int, api.Errno) {
	if st := p.of(name); st != nil {
		return st.stream.Purge(filter, below)
	}
	return 0, api.ErrNone
}

func (p *plainServer) Compact(name string) api.Errno {
	if st := p.of(name); st != nil {
		return st.stream.Compact()
	}
	return api.ErrNone
}

func (p *plainServer) Tick(n int) api.Errno {
	if n < 1 || n > 100000 || n > end-p.time {
		return api.ErrArg
	}
	p.time += n
	for _, st := range p.streams {
		st.stream.Age(p.time)
		st.sweep()
	}
	return api.OK
}

func (p *plainServer) Crash(keep int) {
	for _, st := range p.streams {
		st.stream.Crash(keep)
	}
}

func (p *plainServer) All(name string) ([]api.Record, api.Errno) {
	if st := p.of(name); st != nil {
		return st.stream.Store().All(), api.OK
	}
	return nil, api.ErrNone
}

func (p *plainServer) Sums(name string) (api.Sums, api.Errno) {
	if st := p.of(name); st != nil {
		return st.stream.Store().Sums(), api.OK
	}
	return api.Sums{}, api.ErrNone
}

func (p *plainServer) Info(name, who string) (api.Info, api.Errno) {
	if _, c := p.both(name, who); c != nil {
		return c.consumer.Info(), api.OK
	}
	return api.Info{}, api.ErrNone
}

func oneOf[T any](source *rand.Rand, list ...T) T { return list[source.Intn(len(list))] }

// told is what a call was, and what it answered: the stream that it was of ("*": of all), the consumer, what
// else it was given, the deliveries, what else it told, and the error.
type told struct {
	call, name, who, given string
	deliveries             []api.Delivery
	rest                   string
	e                      api.Errno
}

// A call is made of chance first, so that it can be done at two servers alike.
type call func(s calls) told

func someStream(source *rand.Rand) call {
	name := oneOf(source, names[:]...)
	text := name + " " + oneOf(source, "a,a.>", "a.*,a", "a.b,a", "b,b.*", "b,b.>", "c.>,d", "c.*,d", "d,a.*.*", "*", ">")
	text += oneOf(source, "", "", " msgs=3", " msgs=5 discard=1", " bytes=30", " age=6", " per=2")
	text += oneOf(source, "", " keep=1", " keep=1", " keep=2", " keep=2") + oneOf(source, "", " window=5")
	room, size := oneOf(source, 300, 1000, 65536, 65536, 65536), oneOf(source, 30, 100, 4096)
	if source.Intn(15) == 0 {
		room = oneOf(source, 0, -1, 65537)
	}
	return func(s calls) told {
		return told{call: "Stream", name: name, given: text, e: s.Stream(text, room, size)}
	}
}

func someTake(source *rand.Rand, name string) call {
	who := oneOf(source, members[:]...)
	text := who + " " + oneOf(source, ">", ">", ">", "*", "*.*", "a", "a.>", "b", "b.*", "*.b")
	text += oneOf(source, "", "", "", " from=last", " from=new", " from=3")
	if source.Intn(4) == 0 {
		text += " ack=none"
	} else {
		text += oneOf(source, "", "", " ack=all") + oneOf(source, " wait=3", " wait=1", " wait=7", "", " wait=4 backoff=1,6")
		text += oneOf(source, "", "", " most=1", " most=2") + oneOf(source, "", "", " pending=1", " pending=3")
	}
	text += oneOf(source, "", " push")
	return func(s calls) told {
		return told{call: "Take", name: name, who: who, given: text, e: s.Take(name, text)}
	}
}

func somePost(source *rand.Rand) call {
	x := post(oneOf(source, "a", "a", "a.a", "a.b", "b", "b", "b.b", "c.a", "d"))
	x.Data = oneOf(source, "", "d", "dd")
	x.Id = oneOf(source, "", "", "i", "j")
	switch source.Intn(20) {
	case 0:
		x.Subject = oneOf(source, "", "a.*", ">", "a.a.a.a.a.a.a.a.a")
	case 1:
		x.Expect = oneOf(source, -2, 0, 1, 4)
	case 2:
		x.Roll = oneOf(source, 1, 2, 3)
	}
	return func(s calls) told {
		name, seq, again, e := s.Publish(x)
		return told{call: "Publish", name: name, given: x.Subject, rest: strconv.Itoa(seq) + strconv.FormatBool(again), e: e}
	}
}

func someAnswer(source *rand.Rand, name, who string, of api.Info) call {
	seq, a := of.Floor+1, api.Answer{Sort: oneOf(source, 1, 1, 1, 2, 3, 4)}
	if a.Sort == api.SNak {
		a.N = source.Intn(6)
	}
	if source.Intn(3) == 0 {
		seq = of.Last - source.Intn(4)
	}
	if source.Intn(15) == 0 {
		a = api.Answer{Sort: source.Intn(6), N: oneOf(source, -1, 1, 100001)}
	}
	word := "Answer"
	if a.Sort == api.SAck || a.Sort == api.STerm {
		word = "Done"
	}
	return func(s calls) told {
		return told{call: word, name: name, who: who, given: strconv.Itoa(seq), e: s.Answer(name, who, seq, a)}
	}
}

func somePull(source *rand.Rand, name, who string, now int) call {
	x := api.Pull{Batch: source.Intn(5), NoWait: source.Intn(3) == 0}
	if source.Intn(3) == 0 {
		x.Till = now + source.Intn(10)
	}
	return func(s calls) told {
		return told{call: "Pull", name: name, who: who, e: s.Pull(name, who, x)}
	}
}

func nextOf(name, who string) call {
	return func(s calls) told {
		d, e := s.Next(name, who)
		was := told{call: "Next", name: name, who: who, e: e}
		if e == api.OK {
			was.deliveries = []api.Delivery{d}
		}
		return was
	}
}

func serveOf(name, who string) call {
	return func(s calls) told {
		all, e := s.Serve(name, who)
		return told{call: "Serve", name: name, who: who, deliveries: all, e: e}
	}
}

func someChange(source *rand.Rand, name, who string) call {
	n, filter := source.Intn(14), oneOf(source, "a", "a.*", ">", "..")
	switch source.Intn(10) {
	case 0:
		return func(s calls) told { return told{call: "Drop", name: name, e: s.Drop(name)} }
	case 1, 2:
		return func(s calls) told { return told{call: "Leave", name: name, who: who, e: s.Leave(name, who)} }
	case 3, 4:
		return func(s calls) told { return told{call: "Erase", name: name, e: s.Erase(name, n)} }
	case 5:
		return func(s calls) told {
			went, e := s.Purge(name, filter, n)
			return told{call: "Purge", name: name, rest: strconv.Itoa(went), e: e}
		}
	case 6, 7:
		return func(s calls) told { s.Crash(n); return told{call: "Crash", name: "*"} }
	}
	return func(s calls) told { return told{call: "Compact", name: name, e: s.Compact(name)} }
}

func someTick(source *rand.Rand) call {
	n := oneOf(source, 1, 1, 1, 2, 3, 5)
	if source.Intn(15) == 0 {
		n = oneOf(source, 0, -1, 100001)
	}
	return func(s calls) told { return told{call: "Tick", name: "*", e: s.Tick(n)} }
}

var names, members = [...]string{"v", "w", "x", "y", "z"}, [...]string{"c", "d", "e"}

// somebody is a consumer that is there, most of the time, with its info.
func somebody(source *rand.Rand, p *plainServer) (name, who string, of api.Info) {
	name, who = oneOf(source, names[:]...), oneOf(source, members[:]...)
	if source.Intn(10) == 0 || len(p.streams) == 0 {
		return name, who, of
	}
	st := oneOf(source, p.streams...)
	if len(st.consumers) == 0 {
		return st.plan.Name, who, of
	}
	c := oneOf(source, st.consumers...)
	return st.plan.Name, c.plan.Name, c.consumer.Info()
}

func someCall(source *rand.Rand, p *plainServer) call {
	name, who, of := somebody(source, p)
	if len(p.streams) < 3 && source.Intn(3) == 0 {
		return someStream(source)
	}
	switch source.Intn(30) {
	case 0:
		return someStream(source)
	case 1, 2, 3:
		return someTake(source, name)
	case 4:
		return someChange(source, name, who)
	case 5, 6:
		return someTick(source)
	case 7, 8:
		return somePull(source, name, who, p.time)
	case 9, 10:
		return serveOf(name, who)
	case 11, 12, 13, 14:
		return nextOf(name, who)
	case 15, 16, 17, 18, 19, 20:
		return someAnswer(source, name, who, of)
	}
	return somePost(source)
}

// shown is what the calls that change nothing tell of one stream.
type shown struct {
	messages []api.Record
	sums     api.Sums
	infos    [len(members)]api.Info
	errs     [2 + len(members)]api.Errno
}

func show(s calls) (all [len(names)]shown) {
	for i, name := range names {
		of := &all[i]
		of.messages, of.errs[0] = s.All(name)
		of.sums, of.errs[1] = s.Sums(name)
		for n, who := range members {
			of.infos[n], of.errs[2+n] = s.Info(name, who)
		}
	}
	return all
}

// wantApart wants that a call of one stream changed nothing of another one.
func wantApart(t *testing.T, did told, was, is [len(names)]shown) {
	t.Helper()
	for i, name := range names {
		if did.name != name && did.name != "*" && !reflect.DeepEqual(is[i], was[i]) {
			t.Errorf("%+v: stream %s is %+v, was %+v", did, name, is[i], was[i])
		}
	}
}

// history is what the consumers had, by stream and consumer, held to what they may have.
type history map[[2]string]*had

type had struct {
	last int
	done map[int]int
}

// see wants that first deliveries come in order, and that nothing comes once it was answered so.
func (h history) see(t *testing.T, did told) {
	t.Helper()
	whose := [2]string{did.name, did.who}
	if did.e != api.OK {
		return
	}
	switch did.call {
	case "Take":
		h[whose] = &had{done: map[int]int{}}
	case "Done":
		seq, _ := strconv.Atoi(did.given)
		h[whose].done[seq]++
	}
	for _, d := range did.deliveries {
		x := h[whose]
		if d.Nth == 1 && d.Seq <= x.last || d.Nth > 1 && d.Seq > x.last || x.done[d.Seq] > 0 {
			t.Errorf("%+v: %+v is not in order, or done with", did, d)
		}
		x.last = max(x.last, d.Seq)
	}
}

// tally counts what was answered, so that it is seen that chance led everywhere.
type tally struct {
	errs  map[api.Errno]int
	calls map[string]int
}

func (x tally) see(did told, was, is [len(names)]shown) {
	x.errs[did.e]++
	if did.e == api.OK {
		x.calls[did.call]++
	}
	for _, d := range did.deliveries {
		if d.Nth > 1 {
			x.calls["again"]++
		}
	}
	for i := range was {
		// No call but these takes more than one message away, unless it sweeps.
		if len(is[i].messages)+1 < len(was[i].messages) && did.call != "Purge" && did.call != "Drop" && did.call != "Tick" {
			x.calls["swept"]++
		}
	}
}

func (x tally) wantMuch(t *testing.T) {
	t.Helper()
	for e := range x.errs {
		if x.errs[e] < 30 {
			t.Errorf("error %d was answered %d times only", e, x.errs[e])
		}
	}
	if len(x.errs) != 10 {
		t.Errorf("there were %d errors, of 10: %v", len(x.errs), x.errs)
	}
	for _, word := range []string{"Stream", "Take", "Leave", "Drop", "Publish", "Next", "Serve", "Done", "Answer", "Pull", "Erase", "Purge", "Compact", "Tick", "Crash", "again", "swept"} {
		if x.calls[word] < 30 {
			t.Errorf("%s: %d times only", word, x.calls[word])
		}
	}
}

// Two servers are used in turn, so that it is seen that neither changes the other.
func TestManyCallsP2P31P32P33P34(t *testing.T) {
	source := rand.New(rand.NewSource(14))
	counts := tally{map[api.Errno]int{}, map[string]int{}}
	for range 80 {
		servers := [2]*Server{New(), New()}
		var plain [2]plainServer
		histories := [2]history{{}, {}}
		for n := range 500 {
			i := source.Intn(2)
			do := someCall(source, &plain[i])
			was := show(servers[i])
			did, want := do(servers[i]), do(&plain[i])
			if !reflect.DeepEqual(did, want) {
				t.Errorf("%+v, want %+v", did, want)
			}
			is := show(servers[i])
			wantApart(t, did, was, is)
			if did.call == "Crash" && !reflect.DeepEqual(is, was) {
				t.Errorf("behind a Crash: %+v, want %+v", is, was)
			}
			histories[i].see(t, did)
			counts.see(did, was, is)
			for j, s := range servers {
				if is, want := show(s), show(&plain[j]); !reflect.DeepEqual(is, want) {
					t.Errorf("%+v: server %d is %+v, want %+v", did, j, is, want)
				}
			}
			if t.Failed() {
				t.Fatalf("step %d", n)
			}
		}
	}
	counts.wantMuch(t)
}
