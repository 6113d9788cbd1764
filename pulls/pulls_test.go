package pulls

import (
	"math"
	"math/rand"
	"slices"
	"testing"

	"rillbook/api"
)

const end = 1 << 40

func wrongTimes() []int {
	return []int{math.MinInt, -end, -1, end + 1, 2 * end, math.MaxInt}
}

func pull(batch, till int) api.Pull {
	return api.Pull{Batch: batch, Till: till}
}

func noWait(batch, till int) api.Pull {
	return api.Pull{Batch: batch, Till: till, NoWait: true}
}

func wantAsk(t *testing.T, q *Queue, now int, p api.Pull, want api.Errno) {
	t.Helper()
	if e := q.Ask(now, p); e != want {
		t.Errorf("Ask(%d, %+v): %d, want %d", now, p, e, want)
	}
}

func wantTake(t *testing.T, q *Queue, now int, want bool) {
	t.Helper()
	if is, e := q.Take(now); is != want || e != api.OK {
		t.Errorf("Take(%d): %t, %d, want %t", now, is, e, want)
	}
}

func wantIdle(t *testing.T, q *Queue, now, want int) {
	t.Helper()
	if n, e := q.Idle(now); n != want || e != api.OK {
		t.Errorf("Idle(%d): %d, %d, want %d", now, n, e, want)
	}
}

func wantWaits(t *testing.T, q *Queue, now, want int) {
	t.Helper()
	if n, e := q.Waits(now); n != want || e != api.OK {
		t.Errorf("Waits(%d): %d, %d, want %d", now, n, e, want)
	}
}

// queueOf has these pulls, which were asked for at 0.
func queueOf(t *testing.T, pulls ...api.Pull) *Queue {
	t.Helper()
	q := New()
	for _, p := range pulls {
		wantAsk(t, q, 0, p, api.OK)
	}
	return q
}

// wantLeft wants that the pulls still ask for so many messages, each in its turn. A copy of the
// queue is asked, at time 0, at which none ends.
func wantLeft(t *testing.T, q *Queue, want ...int) {
	t.Helper()
	other := &Queue{waiting: slices.Clone(q.waiting)}
	wantServed(t, other, 0, want...)
}

// wantServed takes all that is asked for, till none waits any more, or more is served than ever can
// be asked for.
func wantServed(t *testing.T, q *Queue, now int, want ...int) {
	t.Helper()
	var left []int
	served := 0
	for range 10*50 + 1 {
		waits, _ := q.Waits(now)
		if is, e := q.Take(now); !is || e != api.OK {
			break
		}
		served++
		if less, _ := q.Waits(now); less < waits {
			left = append(left, served)
			served = 0
		}
	}
	if !slices.Equal(left, want) || served != 0 {
		t.Errorf("at %d the pulls ask for %v, and %d more, want %v", now, left, served, want)
	}
}

func TestEmptyP30(t *testing.T) {
	for _, now := range []int{0, 1, end - 1, end} {
		q := New()
		wantWaits(t, q, now, 0)
		wantIdle(t, q, now, 0)
		wantTake(t, q, now, false)
		wantWaits(t, q, now, 0)
	}
}

func TestTakeP30(t *testing.T) {
	q := queueOf(t, pull(2, 0))
	wantTake(t, q, 0, true)
	wantWaits(t, q, 0, 1)
	wantTake(t, q, 0, true)
	wantWaits(t, q, 0, 0)
	wantTake(t, q, 0, false)
}

func TestTakeInTheOrderOfAskingP30(t *testing.T) {
	q := queueOf(t, pull(3, 0), noWait(1, 0), pull(2, 9))
	wantAsk(t, q, 5, pull(3, 6), api.OK)
	wantLeft(t, q, 3, 1, 2, 3)
	wantTake(t, q, 0, true)
	wantLeft(t, q, 2, 1, 2, 3)
	wantTake(t, q, 0, true)
	wantTake(t, q, 0, true)
	wantLeft(t, q, 1, 2, 3)
	wantTake(t, q, 0, true)
	wantLeft(t, q, 2, 3)
	wantTake(t, q, 0, true)
	wantAsk(t, q, 0, pull(4, 0), api.OK)
	wantLeft(t, q, 1, 3, 4)
	wantServed(t, q, 0, 1, 3, 4)
	wantAsk(t, q, 0, pull(1, 0), api.OK)
	wantLeft(t, q, 1)
}

// Of two that ask for the same it is seen by what else they are which one was served.
func TestTakeOfTheFirstOneP30(t *testing.T) {
	q := queueOf(t, pull(1, 5), pull(1, 9), noWait(1, 0))
	wantTake(t, q, 0, true)
	wantWaits(t, q, 5, 2)
	wantTake(t, q, 5, true)
	wantWaits(t, q, 9, 1)
	wantIdle(t, q, 9, 1)
}

func TestBatchP1P30(t *testing.T) {
	for _, batch := range []int{1, 2, 49, 50} {
		q := queueOf(t, pull(batch, 0), noWait(batch, 0))
		wantLeft(t, q, batch, batch)
	}
	q := queueOf(t, pull(2, 0))
	for _, batch := range []int{math.MinInt, -50, -1, 0, 51, 1 << 32, math.MaxInt} {
		wantAsk(t, q, 0, pull(batch, 0), api.ErrArg)
		wantAsk(t, q, 0, noWait(batch, 7), api.ErrArg)
		wantLeft(t, q, 2)
	}
}

func TestTillP1P30(t *testing.T) {
	for _, till := range []int{1, 2, 1 << 32, end - 1, end} {
		q := queueOf(t, pull(3, till), pull(4, 0))
		wantWaits(t, q, till-1, 2)
		wantLeft(t, q, 3, 4)
		wantWaits(t, q, till, 1)
		wantLeft(t, q, 4)
	}
	q := queueOf(t, pull(2, 0))
	for _, till := range wrongTimes() {
		wantAsk(t, q, 0, pull(1, till), api.ErrArg)
		wantAsk(t, q, 0, noWait(1, till), api.ErrArg)
		wantLeft(t, q, 2)
	}
}

func TestNeverEndsP30(t *testing.T) {
	q := queueOf(t, pull(2, 0), noWait(3, 0))
	wantWaits(t, q, end, 2)
	wantTake(t, q, end, true)
	wantAsk(t, q, end, pull(1, 0), api.OK)
	wantLeft(t, q, 1, 3, 1)
	wantIdle(t, q, end, 1)
	wantLeft(t, q, 1, 1)
}

// Each call lets those go that have ended, ahead of what it does.
func TestEndedGoFirstP30(t *testing.T) {
	five := func() *Queue {
		return queueOf(t, noWait(2, 5), pull(3, 6), noWait(4, 7), pull(5, 4), noWait(6, 0))
	}
	q := five()
	wantWaits(t, q, 5, 3)
	wantLeft(t, q, 3, 4, 6)

	q = five()
	wantTake(t, q, 5, true)
	wantLeft(t, q, 2, 4, 6)

	q = five()
	wantIdle(t, q, 5, 2)
	wantLeft(t, q, 3)

	q = five()
	wantAsk(t, q, 5, pull(7, 0), api.OK)
	wantLeft(t, q, 3, 4, 6, 7)

	q = five()
	wantWaits(t, q, 3, 5)
	wantLeft(t, q, 2, 3, 4, 5, 6)
	wantWaits(t, q, end, 1)
	wantLeft(t, q, 6)
}

func TestAllEndedP30(t *testing.T) {
	q := queueOf(t, noWait(2, 5), pull(3, 4))
	wantTake(t, q, 5, false)
	wantWaits(t, q, 0, 0)
	q = queueOf(t, noWait(2, 5), noWait(3, 4))
	wantIdle(t, q, 6, 0)
	wantWaits(t, q, 0, 0)
}

// Time is told from outside: if it goes back, what is gone stays so.
func TestTimeGoesBackP30(t *testing.T) {
	q := queueOf(t, pull(2, 5), pull(3, 8))
	wantWaits(t, q, 6, 1)
	wantWaits(t, q, 1, 1)
	wantLeft(t, q, 3)
	wantAsk(t, q, 1, pull(4, 5), api.OK)
	wantWaits(t, q, 4, 2)
	wantWaits(t, q, 5, 1)
}

// A pull that has ended when it is asked for waits all the same, till the next call.
func TestAskOfWhatHasEndedP30(t *testing.T) {
	for _, till := range []int{1, 6, 7} {
		q := New()
		wantAsk(t, q, 7, pull(2, till), api.OK)
		wantLeft(t, q, 2)
		wantTake(t, q, 7, false)
		wantAsk(t, q, 7, noWait(2, till), api.OK)
		wantIdle(t, q, 7, 0)
		wantAsk(t, q, 7, pull(2, till), api.OK)
		wantWaits(t, q, 7, 0)
		wantAsk(t, q, 7, pull(2, till), api.OK)
		wantAsk(t, q, 7, pull(3, till), api.OK)
		wantLeft(t, q, 3)
	}
	q := New()
	wantAsk(t, q, end, pull(1, end), api.OK)
	wantLeft(t, q, 1)
	wantWaits(t, q, end, 0)
}

func full(t *testing.T, last api.Pull) *Queue {
	t.Helper()
	q := New()
	for range 9 {
		wantAsk(t, q, 0, pull(1, 0), api.OK)
	}
	wantAsk(t, q, 0, last, api.OK)
	wantWaits(t, q, 0, 10)
	return q
}

func TestFullP30(t *testing.T) {
	q := full(t, pull(3, 8))
	for _, p := range []api.Pull{pull(1, 0), pull(50, end), noWait(1, 0), pull(1, 3)} {
		wantAsk(t, q, 7, p, api.ErrFull)
		wantLeft(t, q, 1, 1, 1, 1, 1, 1, 1, 1, 1, 3)
	}
	wantTake(t, q, 0, true)
	wantAsk(t, q, 0, pull(2, 0), api.OK)
	wantAsk(t, q, 0, pull(2, 0), api.ErrFull)
	wantLeft(t, q, 1, 1, 1, 1, 1, 1, 1, 1, 3, 2)
}

// A queue is full by its pulls, not by what they ask for.
func TestFullTillOneIsGoneP30(t *testing.T) {
	q := New()
	for range 10 {
		wantAsk(t, q, 0, pull(50, 0), api.OK)
	}
	for range 49 {
		wantTake(t, q, 0, true)
		wantAsk(t, q, 0, pull(1, 0), api.ErrFull)
	}
	wantTake(t, q, 0, true)
	wantAsk(t, q, 0, pull(1, 0), api.OK)
	wantAsk(t, q, 0, pull(1, 0), api.ErrFull)
	wantLeft(t, q, 50, 50, 50, 50, 50, 50, 50, 50, 50, 1)
}

func TestWhatHasEndedMakesRoomP30(t *testing.T) {
	q := full(t, pull(3, 8))
	wantAsk(t, q, 8, pull(2, 0), api.OK)
	wantLeft(t, q, 1, 1, 1, 1, 1, 1, 1, 1, 1, 2)
	wantAsk(t, q, 9, pull(2, 0), api.ErrFull)
	q = full(t, noWait(3, 0))
	wantIdle(t, q, 0, 1)
	wantAsk(t, q, 0, pull(2, 0), api.OK)
	wantAsk(t, q, 0, pull(2, 0), api.ErrFull)
	q = full(t, pull(1, 0))
	wantTake(t, q, 0, true)
	wantAsk(t, q, 5, pull(2, 4), api.OK)
	wantAsk(t, q, 5, pull(2, 4), api.OK)
	wantAsk(t, q, 3, pull(2, 4), api.ErrFull)
}

// A wrong pull is told ahead of a full queue, and ahead of what has ended.
func TestWrongPullsComeFirstP30(t *testing.T) {
	q := full(t, pull(3, 8))
	for _, p := range []api.Pull{pull(0, 0), pull(51, 0), pull(1, -1), pull(1, end+1)} {
		wantAsk(t, q, 0, p, api.ErrArg)
		wantAsk(t, q, 9, p, api.ErrArg)
		wantLeft(t, q, 1, 1, 1, 1, 1, 1, 1, 1, 1, 3)
	}
}

func TestIdleP30(t *testing.T) {
	q := queueOf(t, noWait(1, 0), pull(2, 0), noWait(3, 9), noWait(4, 0), pull(5, 9), noWait(6, 0))
	wantIdle(t, q, 0, 4)
	wantLeft(t, q, 2, 5)
	wantIdle(t, q, 0, 0)
	wantAsk(t, q, 0, noWait(7, 0), api.OK)
	wantLeft(t, q, 2, 5, 7)
	wantIdle(t, q, 0, 1)
	wantLeft(t, q, 2, 5)
}

// Pulls are counted, not what they ask for; and one that was served a part goes, too.
func TestIdleOfWhatWasServedP30(t *testing.T) {
	q := queueOf(t, noWait(50, 0), pull(2, 0))
	wantTake(t, q, 0, true)
	wantLeft(t, q, 49, 2)
	wantIdle(t, q, 0, 1)
	wantLeft(t, q, 2)
}

// NoWait alone changes nothing: such a pull is served, and ends, as others.
func TestNoWaitP30(t *testing.T) {
	q := queueOf(t, noWait(2, 5), noWait(1, 0))
	wantTake(t, q, 4, true)
	wantTake(t, q, 4, true)
	wantWaits(t, q, 4, 1)
	wantTake(t, q, 4, true)
	wantWaits(t, q, 4, 0)
	q = queueOf(t, noWait(2, 5), noWait(1, 0))
	wantWaits(t, q, 5, 1)
	wantLeft(t, q, 1)
}

func TestTimesP1P30(t *testing.T) {
	q := queueOf(t, pull(2, 5), noWait(3, 0))
	for _, now := range wrongTimes() {
		wantAsk(t, q, now, pull(1, 0), api.ErrArg)
		wantAsk(t, q, now, pull(0, 0), api.ErrArg)
		if is, e := q.Take(now); is || e != api.ErrArg {
			t.Errorf("Take(%d): %t, %d", now, is, e)
		}
		if n, e := q.Idle(now); n != 0 || e != api.ErrArg {
			t.Errorf("Idle(%d): %d, %d", now, n, e)
		}
		if n, e := q.Waits(now); n != 0 || e != api.ErrArg {
			t.Errorf("Waits(%d): %d, %d", now, n, e)
		}
		wantLeft(t, q, 2, 3)
	}
	wantAsk(t, q, end, pull(1, 0), api.OK)
	wantWaits(t, q, end, 2)
	wantTake(t, q, end, true)
	wantIdle(t, q, end, 1)
	wantLeft(t, q, 1)
}

// A wrong time is told ahead of a full queue.
func TestWrongTimeOfAFullQueueP1P30(t *testing.T) {
	q := full(t, pull(3, 8))
	for _, now := range wrongTimes() {
		wantAsk(t, q, now, pull(1, 0), api.ErrArg)
	}
	wantWaits(t, q, 7, 10)
}

func TestZeroQueueAnswersP1P30(t *testing.T) {
	var q Queue
	wantWaits(t, &q, 0, 0)
	wantTake(t, &q, 0, false)
	wantIdle(t, &q, 0, 0)
	wantAsk(t, &q, 0, pull(1, 0), api.OK)
	wantLeft(t, &q, 1)
}

func TestQueuesAreApartP2P30(t *testing.T) {
	a, b := New(), New()
	wantAsk(t, a, 0, pull(2, 5), api.OK)
	wantWaits(t, b, 9, 0)
	wantAsk(t, b, 0, noWait(3, 0), api.OK)
	wantIdle(t, b, 9, 1)
	wantLeft(t, a, 2)
	wantTake(t, a, 0, true)
	wantWaits(t, b, 0, 0)
}

// plainQueue is a queue told by the document's words: each message that is asked for is an element
// of its own, with the number of its pull.
type plainQueue struct {
	asked []asked
	came  int
}

type asked struct {
	by int
	api.Pull
}

func (p *plainQueue) drop(goes func(x asked) bool) int {
	was := p.count()
	var stay []asked
	for _, x := range p.asked {
		if !goes(x) {
			stay = append(stay, x)
		}
	}
	p.asked = stay
	return was - p.count()
}

func (p *plainQueue) count() int {
	by := map[int]int{}
	for _, x := range p.asked {
		by[x.by]++
	}
	return len(by)
}

func (p *plainQueue) begin(now int) api.Errno {
	if now < 0 || now > end {
		return api.ErrArg
	}
	p.drop(func(x asked) bool { return x.Till != 0 && x.Till <= now })
	return api.OK
}

func (p *plainQueue) ask(now int, x api.Pull) api.Errno {
	if x.Batch < 1 || x.Batch > 50 || x.Till < 0 || x.Till > end {
		return api.ErrArg
	}
	if e := p.begin(now); e != api.OK {
		return e
	}
	if p.count() == 10 {
		return api.ErrFull
	}
	p.came++
	for range x.Batch {
		p.asked = append(p.asked, asked{p.came, x})
	}
	return api.OK
}

func (p *plainQueue) take(now int) (bool, api.Errno) {
	if e := p.begin(now); e != api.OK || len(p.asked) == 0 {
		return false, e
	}
	p.asked = p.asked[1:]
	return true, api.OK
}

func (p *plainQueue) idle(now int) (int, api.Errno) {
	if e := p.begin(now); e != api.OK {
		return 0, e
	}
	return p.drop(func(x asked) bool { return x.NoWait }), api.OK
}

func (p *plainQueue) waits(now int) (int, api.Errno) {
	if e := p.begin(now); e != api.OK {
		return 0, e
	}
	return p.count(), api.OK
}

func (p *plainQueue) left() []int {
	var left []int
	by := 0
	for _, x := range p.asked {
		if x.by != by {
			left = append(left, 0)
			by = x.by
		}
		left[len(left)-1]++
	}
	return left
}

func oneOf[T any](source *rand.Rand, list ...T) T { return list[source.Intn(len(list))] }

func somePull(source *rand.Rand, now int) api.Pull {
	p := api.Pull{Batch: 1 + source.Intn(4), NoWait: source.Intn(4) == 0}
	if source.Intn(2) == 0 {
		p.Till = max(0, now+source.Intn(20)-2)
	}
	switch source.Intn(30) {
	case 0:
		p.Batch = oneOf(source, -1, 0, 50, 51)
	case 1:
		p.Till = oneOf(source, -1, 1, end, end+1)
	}
	return p
}

// step does one call at both, and tells its error.
func step(t *testing.T, source *rand.Rand, now int, q *Queue, p *plainQueue) api.Errno {
	t.Helper()
	if source.Intn(30) == 0 {
		now = oneOf(source, -1, end+1)
	}
	switch source.Intn(12) {
	case 0:
		n, e := q.Idle(now)
		if m, want := p.idle(now); n != m || e != want {
			t.Errorf("Idle(%d): %d, %d, want %d, %d", now, n, e, m, want)
		}
		return e
	case 1:
		n, e := q.Waits(now)
		if m, want := p.waits(now); n != m || e != want {
			t.Errorf("Waits(%d): %d, %d, want %d, %d", now, n, e, m, want)
		}
		return e
	case 2, 3, 4, 5:
		is, e := q.Take(now)
		if was, want := p.take(now); is != was || e != want {
			t.Errorf("Take(%d): %t, %d, want %t, %d", now, is, e, was, want)
		}
		return e
	}
	x := somePull(source, now)
	e := q.Ask(now, x)
	if want := p.ask(now, x); e != want {
		t.Errorf("Ask(%d, %+v): %d, want %d", now, x, e, want)
	}
	return e
}

// Two queues are used in turn, so that it is seen that neither changes the other.
func TestManyCallsP2P30(t *testing.T) {
	source := rand.New(rand.NewSource(13))
	answered := map[api.Errno]int{}
	for range 200 {
		queues := [2]*Queue{New(), New()}
		var plain [2]plainQueue
		now := 0
		for n := range 150 {
			now = max(0, now+source.Intn(4)-1)
			i := source.Intn(2)
			answered[step(t, source, now, queues[i], &plain[i])]++
			for j, q := range queues {
				wantLeft(t, q, plain[j].left()...)
			}
			if t.Failed() {
				t.Fatalf("step %d, at %d", n, now)
			}
		}
	}
	for _, e := range []api.Errno{api.OK, api.ErrArg, api.ErrFull} {
		if answered[e] < 500 {
			t.Errorf("error %d was answered %d times only", e, answered[e])
		}
	}
}
