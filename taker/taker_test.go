package taker

import (
	"math"
	"math/rand"
	"reflect"
	"regexp"
	"slices"
	"strconv"
	"strings"
	"testing"
	"unsafe"

	"rillbook/api"
	"rillbook/subject"
)

// rows of tokens of eight and nine, which are one too many.
const (
	eight = "a.b.c.d.e.f.g.h"
	nine  = eight + ".i"
)

// longest is a filter with as many bytes as one can have.
func longest() string {
	token := strings.Repeat("t", api.MaxToken)
	return strings.Repeat(token+".", api.MaxTokens-1) + token
}

// silent and asking are the least plans: without acks, and with them.
func silent() api.Taker {
	return api.Taker{Name: "c", Filter: "a", Ack: api.AckNone}
}

func asking() api.Taker {
	return api.Taker{Name: "c", Filter: "a", Ack: api.AckExplicit, Wait: 5}
}

func with(x api.Taker, change func(x *api.Taker)) api.Taker {
	change(&x)
	return x
}

func waiting(backoff ...int) api.Taker {
	return with(asking(), func(x *api.Taker) { x.Backoff = backoff })
}

func same(x, y api.Taker) bool {
	is := slices.Equal(x.Backoff, y.Backoff)
	x.Backoff, y.Backoff = nil, nil
	return is && reflect.DeepEqual(x, y)
}

func isZero(x api.Taker) bool {
	return same(x, api.Taker{})
}

func wantCheck(t *testing.T, x api.Taker, want api.Errno) {
	t.Helper()
	if e := Check(x); e != want {
		t.Errorf("Check(%+v): %d, want %d", x, e, want)
	}
	// Print asks Check first, so its errors are Print's, too.
	if want != api.OK {
		wantPrint(t, x, "", want)
	}
}

func wantPrint(t *testing.T, x api.Taker, s string, want api.Errno) {
	t.Helper()
	if text, e := Print(x); text != s || e != want {
		t.Errorf("Print(%+v): %q, %d, want %q, %d", x, text, e, s, want)
	}
}

func wantTaker(t *testing.T, s string, want api.Taker) {
	t.Helper()
	if x, e := Parse(s); !same(x, want) || e != api.OK {
		t.Errorf("Parse(%q): %+v, %d, want %+v", s, x, e, want)
	}
}

func wantNoTaker(t *testing.T, s string, want api.Errno) {
	t.Helper()
	if x, e := Parse(s); !isZero(x) || e != want {
		t.Errorf("Parse(%.80q): %+v, %d, want %d", s, x, e, want)
	}
}

func TestNamesP24(t *testing.T) {
	check := func(name string, want api.Errno) {
		t.Helper()
		wantCheck(t, with(asking(), func(x *api.Taker) { x.Name = name }), want)
		wantCheck(t, with(silent(), func(x *api.Taker) { x.Name = name }), want)
	}
	for b := range 256 {
		letter := string([]byte{byte(b)})
		want := api.ErrSyntax
		if strings.Contains("abcdefghijklmnopqrstuvwxyz0123456789-", letter) {
			want = api.OK
		}
		for _, name := range []string{letter, "a" + letter, letter + "a"} {
			check(name, want)
		}
	}
	for _, name := range []string{"-", "0", "worker-2", strings.Repeat("n", 16)} {
		check(name, api.OK)
	}
	for _, name := range []string{"", "A", "c.d", "c d", "é", "a\x00", "\xff", strings.Repeat("n", 17), strings.Repeat("n", 5000)} {
		check(name, api.ErrSyntax)
	}
}

func TestFiltersP24(t *testing.T) {
	check := func(filter string, want api.Errno) {
		t.Helper()
		wantCheck(t, with(asking(), func(x *api.Taker) { x.Filter = filter }), want)
	}
	for _, f := range []string{">", "*", "a.*.b", "a.>", eight, longest(), "a,b", "wait=3", "push", "A"} {
		check(f, api.OK)
	}
	for _, f := range []string{"", ".", "a.", "a..b", ">.a", "a b", "a\n", "é", strings.Repeat("a", 17)} {
		check(f, api.ErrSyntax)
	}
	check(nine, api.ErrLarge)
	check("..."+nine, api.ErrLarge)
}

func TestHowManyBackoffsP24(t *testing.T) {
	wantCheck(t, waiting(), api.OK)
	wantCheck(t, waiting([]int{}...), api.OK)
	wantCheck(t, waiting(1), api.OK)
	wantCheck(t, waiting(5, 4, 3, 2, 1), api.OK)
	wantCheck(t, waiting(1, 2, 3, 4, 5, 6), api.ErrLarge)
	wantCheck(t, waiting(make([]int, 10000)...), api.ErrLarge)
}

// outside has numbers that are in none of the bounds of a plan that begin at 0.
func outside() []int {
	return []int{-1, 1 << 32, 1<<32 + 1, 1<<32 + 5, math.MinInt, math.MaxInt}
}

func TestFromAndStartP24(t *testing.T) {
	check := func(from, start int, want api.Errno) {
		t.Helper()
		for _, x := range []api.Taker{asking(), silent()} {
			x.From, x.Start = from, start
			wantCheck(t, x, want)
		}
	}
	for _, from := range []int{api.FromAll, api.FromLast, api.FromNew} {
		check(from, 0, api.OK)
		for _, start := range append(outside(), 1, 999999999) {
			check(from, start, api.ErrArg)
		}
	}
	for _, start := range []int{1, 2, 7, 999999998, 999999999} {
		check(api.FromSeq, start, api.OK)
	}
	for _, start := range append(outside(), 0, 1000000000) {
		check(api.FromSeq, start, api.ErrArg)
	}
	for _, from := range append(outside(), 4) {
		check(from, 0, api.ErrArg)
		check(from, 1, api.ErrArg)
	}
}

// field is one of the numbers of a plan that has acks, by its word.
type field struct {
	word        string
	least, most int
	of          func(x *api.Taker) *int
}

func fields() []field {
	return []field{
		{"wait", 1, 100000, func(x *api.Taker) *int { return &x.Wait }},
		{"most", 0, 20, func(x *api.Taker) *int { return &x.Most }},
		{"pending", 0, 50, func(x *api.Taker) *int { return &x.Pending }},
	}
}

func TestAckP24(t *testing.T) {
	for _, ack := range []int{api.AckAll, api.AckExplicit} {
		wantCheck(t, with(asking(), func(x *api.Taker) { x.Ack = ack }), api.OK)
		wantCheck(t, with(silent(), func(x *api.Taker) { x.Ack = ack }), api.ErrArg)
	}
	for _, ack := range append(outside(), 3) {
		wantCheck(t, with(asking(), func(x *api.Taker) { x.Ack = ack }), api.ErrArg)
		wantCheck(t, with(silent(), func(x *api.Taker) { x.Ack = ack }), api.ErrArg)
	}
}

func TestWithoutAcksP24(t *testing.T) {
	wantCheck(t, silent(), api.OK)
	wantCheck(t, with(silent(), func(x *api.Taker) { x.Push = true }), api.OK)
	wantCheck(t, with(silent(), func(x *api.Taker) { x.Backoff = []int{} }), api.OK)
	for _, f := range fields() {
		for _, n := range append(outside(), 1, f.most) {
			wantCheck(t, with(silent(), func(x *api.Taker) { *f.of(x) = n }), api.ErrArg)
		}
	}
	for _, backoff := range [][]int{{0}, {1}, {1, 2}, {1, 2, 3, 4, 5}} {
		wantCheck(t, with(silent(), func(x *api.Taker) { x.Backoff = backoff }), api.ErrArg)
	}
	wantCheck(t, with(silent(), func(x *api.Taker) { x.Backoff = make([]int, 6) }), api.ErrLarge)
}

func TestNumbersWithAcksP24(t *testing.T) {
	for _, ack := range []int{api.AckAll, api.AckExplicit} {
		plain := with(asking(), func(x *api.Taker) { x.Ack = ack })
		for _, f := range fields() {
			for _, n := range []int{f.least, f.least + 1, f.most - 1, f.most} {
				wantCheck(t, with(plain, func(x *api.Taker) { *f.of(x) = n }), api.OK)
			}
			for _, n := range append(outside(), f.least-1, f.most+1) {
				wantCheck(t, with(plain, func(x *api.Taker) { *f.of(x) = n }), api.ErrArg)
			}
		}
		wantCheck(t, api.Taker{Name: "c", Filter: ">", From: api.FromSeq, Start: 999999999, Ack: ack, Wait: 100000,
			Backoff: []int{100000, 1, 100000, 1, 100000}, Most: 20, Pending: 50, Push: true}, api.OK)
	}
}

// Each place of the list is looked at, and Wait stays asked for beside it.
func TestBackoffP24(t *testing.T) {
	for _, ack := range []int{api.AckAll, api.AckExplicit} {
		for size := 1; size <= 5; size++ {
			for place := range size {
				check := func(n int, want api.Errno) {
					t.Helper()
					x := waiting(slices.Repeat([]int{3}, size)...)
					x.Ack, x.Backoff[place] = ack, n
					wantCheck(t, x, want)
				}
				for _, n := range []int{1, 2, 99999, 100000} {
					check(n, api.OK)
				}
				for _, n := range append(outside(), 0, 100001) {
					check(n, api.ErrArg)
				}
			}
		}
		wantCheck(t, with(waiting(1, 2), func(x *api.Taker) { x.Ack, x.Wait = ack, 0 }), api.ErrArg)
	}
}

// Each plan has all faults but those that the ones ahead had: the first one that is left is told.
func TestOrderOfErrorsP24(t *testing.T) {
	x := api.Taker{Name: "C", Filter: nine, Backoff: make([]int, 6), From: 4, Start: -1, Ack: 3, Wait: -1}
	wantCheck(t, x, api.ErrSyntax)
	x.Name = "c"
	wantCheck(t, x, api.ErrLarge)
	x.Filter = "a..b"
	wantCheck(t, x, api.ErrSyntax)
	x.Filter = "a"
	wantCheck(t, x, api.ErrLarge)
	x.Backoff = make([]int, 5)
	wantCheck(t, x, api.ErrArg)
	x.From, x.Start = api.FromAll, 0
	wantCheck(t, x, api.ErrArg)
	x.Ack = api.AckAll
	wantCheck(t, x, api.ErrArg)
	x.Backoff = []int{1}
	wantCheck(t, x, api.ErrArg)
	x.Wait = 1
	wantCheck(t, x, api.OK)
	wantCheck(t, api.Taker{}, api.ErrSyntax)
	wantCheck(t, api.Taker{Name: "c"}, api.ErrSyntax)
	wantCheck(t, api.Taker{Name: "c", Filter: "a"}, api.OK)
}

// texts that are told of a plan, and the plan that is read of them.
func texts() map[string]api.Taker {
	list := map[string]api.Taker{
		"c a ack=none":                           silent(),
		"c a ack=none push":                      with(silent(), func(x *api.Taker) { x.Push = true }),
		"c a wait=5":                             asking(),
		"c a wait=5 push":                        with(asking(), func(x *api.Taker) { x.Push = true }),
		"c a ack=all wait=5":                     with(asking(), func(x *api.Taker) { x.Ack = api.AckAll }),
		"c a from=last wait=5":                   with(asking(), func(x *api.Taker) { x.From = api.FromLast }),
		"c a from=new wait=5":                    with(asking(), func(x *api.Taker) { x.From = api.FromNew }),
		"c a from=new ack=none":                  with(silent(), func(x *api.Taker) { x.From = api.FromNew }),
		"c a from=1 ack=none push":               {Name: "c", Filter: "a", From: api.FromSeq, Start: 1, Push: true},
		"c a from=999999999 wait=5":              with(asking(), func(x *api.Taker) { x.From, x.Start = api.FromSeq, 999999999 }),
		"c a wait=5 backoff=1":                   waiting(1),
		"c a wait=5 backoff=1,2,3,4,5":           waiting(1, 2, 3, 4, 5),
		"c a wait=5 backoff=100000,1,100000,9,9": waiting(100000, 1, 100000, 9, 9),
		"c a wait=5 most=3 pending=7":            with(asking(), func(x *api.Taker) { x.Most, x.Pending = 3, 7 }),
		"c a.> from=7 ack=all wait=5 backoff=1,2,9 most=3 push": {Name: "c", Filter: "a.>", From: api.FromSeq, Start: 7,
			Ack: api.AckAll, Wait: 5, Backoff: []int{1, 2, 9}, Most: 3, Push: true},
		// Name and filter are told by their places, whatever they look like.
		"push push wait=5":                         {Name: "push", Filter: "push", Ack: api.AckExplicit, Wait: 5},
		"0 from=new wait=5":                        {Name: "0", Filter: "from=new", Ack: api.AckExplicit, Wait: 5},
		"c wait=7 wait=5":                          {Name: "c", Filter: "wait=7", Ack: api.AckExplicit, Wait: 5},
		"c a,b wait=5":                             {Name: "c", Filter: "a,b", Ack: api.AckExplicit, Wait: 5},
		"worker-1 *.b.> ack=none":                  {Name: "worker-1", Filter: "*.b.>"},
		"worker-1 > from=last ack=all wait=100000": {Name: "worker-1", Filter: ">", From: api.FromLast, Ack: api.AckAll, Wait: 100000},
	}
	for _, f := range fields() {
		for _, n := range []int{1, f.most} {
			s := "c a wait=5 " + f.word + "="
			if f.word == "wait" {
				s = "c a wait="
			}
			list[s+strconv.Itoa(n)] = with(asking(), func(x *api.Taker) { *f.of(x) = n })
		}
	}
	return list
}

func TestTextsP25(t *testing.T) {
	for s, x := range texts() {
		wantPrint(t, x, s, api.OK)
		wantTaker(t, s, x)
	}
}

// The longest text that a plan has can be read, too.
func TestLongestTextP25(t *testing.T) {
	x := api.Taker{Name: strings.Repeat("n", 16), Filter: longest(), From: api.FromSeq, Start: 999999999, Ack: api.AckAll,
		Wait: 100000, Backoff: slices.Repeat([]int{100000}, 5), Most: 20, Pending: 50, Push: true}
	s := x.Name + " " + x.Filter +
		" from=999999999 ack=all wait=100000 backoff=100000,100000,100000,100000,100000 most=20 pending=50 push"
	wantPrint(t, x, s, api.OK)
	wantTaker(t, s, x)
}

func TestTextsThatAreNoneP25(t *testing.T) {
	for _, s := range []string{
		"", "c", " ", "c ", " a", " c a wait=5", "c a wait=5 ", "c  a wait=5", "c a  wait=5", "c a wait=5  push", "c a wait=5 push ",
		"c\ta wait=5", "c a wait=5\n", "c a\twait=5", "c a wait=5\tpush", "c a, b wait=5",
		"C a wait=5", "c.d a wait=5", "é a wait=5", strings.Repeat("n", 17) + " a wait=5", "c a. wait=5", "c a..b wait=5", "c a.>.b wait=5",
		"c a b", "c a b wait=5", "c a wait", "c a =", "c a =5", "c a 5", "c a wait5", "c a wait:5", "c a wait =5", "c a wait= 5",
		"c a Wait=5", "c a WAIT=5", "c a waits=5", "c a xwait=5", "c a name=1", "c a start=1", "c a per=3 wait=5",
		"c a wait=5,push", "c a wait=5 x", "c a wait=5 push x", "c a wait=5 push push", "c a wait=5 x=1",
		"c a wait=5 Push", "c a wait=5 push=", "c a wait=5 push=1", "c a wait=5 push=true", "c a wait=5 pushx", "c a wait=5 pus",
		"c a from= wait=5", "c a from wait=5", "c a from=all wait=5", "c a from=seq wait=5", "c a from=Last wait=5", "c a from=lastx wait=5",
		"c a from=last, wait=5", "c a from=new1 wait=5", "c a from=last,new wait=5", "c a from=1,2 wait=5", "c a from=3last wait=5",
		"c a ack= wait=5", "c a ack wait=5", "c a ack=explicit wait=5", "c a ack=None", "c a ack=nonex", "c a ack=al wait=5",
		"c a ack=0", "c a ack=1 wait=5", "c a ack=2 wait=5", "c a ack=all,none wait=5",
		"c a wait=5 backoff", "c a wait=5 backoff=", "c a wait=5 backoff=,", "c a wait=5 backoff=,1", "c a wait=5 backoff=1,",
		"c a wait=5 backoff=1,,2", "c a wait=5 backoff=1, 2", "c a wait=5 backoff=1 2", "c a wait=5 backoff=1;2", "c a wait=5 backoff=1.2",
		"c a wait=5 backoff=1 backoff=2", "c a from=last from=last wait=5", "c a from=last from=1 wait=5", "c a ack=all ack=all wait=5",
	} {
		wantNoTaker(t, s, api.ErrSyntax)
	}
}

// frontsOfNumbers are texts that are a plan's with a number behind; of each, the greatest that is taken.
func frontsOfNumbers() map[string]int {
	return map[string]int{
		"c a wait=":                       100000,
		"c a wait=5 most=":                20,
		"c a wait=5 pending=":             50,
		"c a wait=5 backoff=":             100000,
		"c a wait=5 backoff=7,":           100000,
		"c a wait=5 backoff=7,7,7,7,":     100000,
		"c a ack=all wait=5 backoff=7,":   100000,
		"c a from=new ack=all wait=":      100000,
		"c a wait=5 backoff=3 pending=":   50,
		"c a ack=all wait=5 most=":        20,
		"c a ack=all wait=9 pending=":     50,
		"c a from=last wait=5 backoff=4,": 100000,
	}
}

func wrongNumbers() []string {
	return []string{
		"", "0", "00", "01", "0001", "000000001", "-1", "+1", "-0", "1.0", "1e1", "0x1", "1_0", "a", "1a", "a1", "=1", "1=", "1=1",
		"1000000000", "0000000001", "9999999999", "18446744073709551617", strings.Repeat("1", 900), "1\x00", "1\n", "٣", "1/", "1:",
	}
}

func TestNumbersThatAreNoneP25(t *testing.T) {
	for front, most := range frontsOfNumbers() {
		for _, n := range wrongNumbers() {
			wantNoTaker(t, front+n, api.ErrSyntax)
		}
		for _, n := range []int{most + 1, 100001, 100000000, 999999999} {
			wantNoTaker(t, front+strconv.Itoa(n), api.ErrArg)
		}
		for _, n := range []int{1, most} {
			if _, e := Parse(front + strconv.Itoa(n)); e != api.OK {
				t.Errorf("Parse(%s%d): %d", front, n, e)
			}
		}
	}
	for _, n := range wrongNumbers() {
		wantNoTaker(t, "c a from="+n+" wait=5", api.ErrSyntax)
		wantNoTaker(t, "c a wait=5 backoff="+n+",7", api.ErrSyntax)
		wantNoTaker(t, "c a wait=5 backoff=7,"+n+",7", api.ErrSyntax)
	}
}

func TestOrderOfWordsP25(t *testing.T) {
	words := []string{"from=new", "ack=all", "wait=5", "backoff=1,2", "most=1", "pending=1", "push"}
	full := api.Taker{Name: "c", Filter: "a", From: api.FromNew, Ack: api.AckAll, Wait: 5, Backoff: []int{1, 2}, Most: 1, Pending: 1, Push: true}
	wantTaker(t, "c a "+strings.Join(words, " "), full)
	for i := range words {
		for j := range words {
			turned := slices.Clone(words)
			turned[i], turned[j] = turned[j], turned[i]
			if i != j {
				wantNoTaker(t, "c a "+strings.Join(turned, " "), api.ErrSyntax)
			}
			twice := slices.Insert(slices.Clone(words), j, words[i])
			wantNoTaker(t, "c a "+strings.Join(twice, " "), api.ErrSyntax)
			if i >= j {
				wantNoTaker(t, "c a "+words[i]+" "+words[j], api.ErrSyntax)
			}
		}
	}
}

func TestErrorsOfParseP25(t *testing.T) {
	for s, want := range map[string]api.Errno{
		"c a":                                   api.ErrArg,
		"c a push":                              api.ErrArg,
		"c a ack=all":                           api.ErrArg,
		"c a from=new":                          api.ErrArg,
		"c a backoff=1,2":                       api.ErrArg,
		"c a most=3 pending=3":                  api.ErrArg,
		"c a ack=none wait=1":                   api.ErrArg,
		"c a ack=none backoff=1":                api.ErrArg,
		"c a ack=none most=1":                   api.ErrArg,
		"c a ack=none pending=1":                api.ErrArg,
		"c a wait=100001":                       api.ErrArg,
		"c a wait=5 backoff=1,100001":           api.ErrArg,
		"c a wait=5 most=21":                    api.ErrArg,
		"c a wait=5 pending=51":                 api.ErrArg,
		"c a wait=5 backoff=1,2,3,4,5,6":        api.ErrLarge,
		"c a backoff=1,2,3,4,5,6":               api.ErrLarge,
		"c a ack=none backoff=1,2,3,4,5,6":      api.ErrLarge,
		"c " + nine + " wait=5":                 api.ErrLarge,
		"c " + nine:                             api.ErrLarge,
		"c a..b wait=5 backoff=1,2,3,4,5,6":     api.ErrSyntax,
		"C " + nine + " wait=5":                 api.ErrSyntax,
		"c " + nine + " wait=05":                api.ErrSyntax,
		"c " + nine + " wait=5 ":                api.ErrSyntax,
		"c a wait=5 backoff=1,2,3,4,5,6,":       api.ErrSyntax,
		"c a wait=5 backoff=1,2,3,4,5,0":        api.ErrSyntax,
		"c a wait=5 backoff=1,2,3,4,5,6 most=0": api.ErrSyntax,
		"c a wait=100001 pending=0":             api.ErrSyntax,
		"c a wait=100001 from=new":              api.ErrSyntax,
		"c a wait=5" + " backoff=1" + strings.Repeat(",1", 500): api.ErrLarge,
	} {
		wantNoTaker(t, s, want)
	}
}

// How long a text is is asked first, whatever is in it.
func TestLongTextsP25(t *testing.T) {
	for _, x := range []struct {
		n    int
		want api.Errno
	}{{1023, api.ErrSyntax}, {1024, api.ErrSyntax}, {1025, api.ErrLarge}, {1 << 20, api.ErrLarge}} {
		for _, letter := range []string{"a", " ", "=", ","} {
			wantNoTaker(t, strings.Repeat(letter, x.n), x.want)
		}
		for _, front := range []string{"c a wait=5 push", "c a ack=none"} {
			wantNoTaker(t, front+strings.Repeat(" ", x.n-len(front)), x.want)
		}
		for _, front := range []string{"c a wait=", "c a from=", "c a wait=5 backoff=1,", "C"} {
			wantNoTaker(t, front+strings.Repeat("1", x.n-len(front)), x.want)
		}
		wantNoTaker(t, "c "+strings.Repeat("a", x.n-2), x.want)
	}
}

var (
	plainForm = regexp.MustCompile(formOfTexts())
	plainName = regexp.MustCompile(`^[a-z0-9-]{1,16}$`)
)

func formOfTexts() string {
	form := `^([^ ]*) ([^ ]*)(?: from=(last|new|N))?(?: ack=(none|all))?(?: wait=(N))?` +
		`(?: backoff=(N(?:,N)*))?(?: most=(N))?(?: pending=(N))?( push)?$`
	return strings.ReplaceAll(form, "N", "[1-9][0-9]{0,8}")
}

func number(s string) int {
	n, _ := strconv.Atoi(s)
	return n
}

// plainParse says the form by a pattern, as the document tells it.
func plainParse(s string) (api.Taker, api.Errno) {
	if len(s) > 1024 {
		return api.Taker{}, api.ErrLarge
	}
	parts := plainForm.FindStringSubmatch(s)
	if parts == nil {
		return api.Taker{}, api.ErrSyntax
	}
	x := api.Taker{Name: parts[1], Filter: parts[2], Wait: number(parts[5]), Most: number(parts[7]), Pending: number(parts[8]), Push: parts[9] != ""}
	x.From = map[string]int{"": 0, "last": 1, "new": 2}[parts[3]]
	if number(parts[3]) != 0 {
		x.From, x.Start = 3, number(parts[3])
	}
	x.Ack = map[string]int{"none": 0, "all": 1, "": 2}[parts[4]]
	if parts[6] != "" {
		for _, n := range strings.Split(parts[6], ",") {
			x.Backoff = append(x.Backoff, number(n))
		}
	}
	if e := plainCheck(x); e != api.OK {
		return api.Taker{}, e
	}
	return x, api.OK
}

func plainCheck(x api.Taker) api.Errno {
	if !plainName.MatchString(x.Name) {
		return api.ErrSyntax
	}
	if e := subject.Filter(x.Filter); e != api.OK {
		return e
	}
	if len(x.Backoff) > 5 {
		return api.ErrLarge
	}
	wrong := x.From < 0 || x.From > 3 || x.Ack < 0 || x.Ack > 2
	wrong = wrong || x.From == 3 && (x.Start < 1 || x.Start > 999999999) || x.From != 3 && x.Start != 0
	if x.Ack == 0 {
		wrong = wrong || x.Wait != 0 || x.Most != 0 || x.Pending != 0 || len(x.Backoff) != 0
	} else {
		for _, n := range append([]int{x.Wait}, x.Backoff...) {
			wrong = wrong || n < 1 || n > 100000
		}
		wrong = wrong || x.Most < 0 || x.Most > 20 || x.Pending < 0 || x.Pending > 50
	}
	if wrong {
		return api.ErrArg
	}
	return api.OK
}

// pick takes one of a list, and mostly the first one.
func pick[T any](r *rand.Rand, list ...T) T {
	if r.Intn(4) > 0 {
		return list[0]
	}
	return list[r.Intn(len(list))]
}

// someText is nearly the text of a plan: each part is wrong now and then.
func someText(r *rand.Rand) string {
	s := pick(r, "c", "c", "c", "", "C", "worker-1", "a,b", strings.Repeat("n", 17))
	s += pick(r, " ", " ", " ", "", "  ", "\t")
	s += pick(r, "a", "b.*", "a", "", ">", "a..b", nine)
	parts := []string{
		pick(r, "", "from=last", "from=new", "from=7", "from=999999999", "from=1000000000", "from=0", "from=all"),
		pick(r, "", "ack=all", "ack=none", "ack=all", "ack=none", "ack=explicit", "ack="),
		pick(r, "wait=5", "wait=1", "wait=100000", "wait=100001", "wait=0", "", "", "wait=05"),
		pick(r, "", "backoff=1", "backoff=3,2,1", "backoff=1,2,3,4,100000", "backoff=1,2,3,4,5,6", "backoff=1,", "backoff=100001"),
		pick(r, "", "most=1", "most=20", "most=21", "most=0"),
		pick(r, "", "pending=1", "pending=50", "pending=51", "pending=0"),
		pick(r, "", "push", "push", "push", "push=1", "x"),
	}
	if r.Intn(20) == 0 {
		r.Shuffle(len(parts), func(i, j int) { parts[i], parts[j] = parts[j], parts[i] })
	}
	for _, part := range parts {
		if part != "" {
			s += " " + part
		}
	}
	return s + pick(r, "", "", "", "", "", " ", "x", "1", " x=1", " push")
}

func TestManyTextsP24P25(t *testing.T) {
	r := rand.New(rand.NewSource(11))
	seen := map[api.Errno]int{}
	for range 20000 {
		s := someText(r)
		want, wantE := plainParse(s)
		seen[wantE]++
		if wantE != api.OK {
			wantNoTaker(t, s, wantE)
			continue
		}
		wantTaker(t, s, want)
		// A plan has one text alone, so what was read is told as it was.
		wantPrint(t, want, s, api.OK)
	}
	for _, e := range []api.Errno{api.OK, api.ErrArg, api.ErrLarge, api.ErrSyntax} {
		if seen[e] < 300 {
			t.Errorf("error %d was met %d times alone", e, seen[e])
		}
	}
}

func someTaker(r *rand.Rand) api.Taker {
	x := api.Taker{
		Name:    pick(r, "c", "c", "c", "", "C", "worker-1"),
		Filter:  pick(r, "a", "a.>", "b,c", "push", "", nine),
		From:    pick(r, 0, 1, 2, 3, 3, 3, 4, -1),
		Ack:     pick(r, 2, 1, 0, 0, 3, -1),
		Wait:    pick(r, 5, 0, 0, 1, 100000, 100001, -1),
		Most:    pick(r, 0, 1, 20, 21, -1),
		Pending: pick(r, 0, 1, 50, 51, -1),
		Push:    r.Intn(2) == 0,
	}
	if x.From == 3 {
		x.Start = pick(r, 7, 1, 999999999, 0, -1, 1000000000)
	} else {
		x.Start = pick(r, 0, 0, 0, 1, -1)
	}
	for range pick(r, 0, 1, 2, 5, 6) {
		x.Backoff = append(x.Backoff, pick(r, 9, 9, 1, 1, 100000, 100000, 100001, 0))
	}
	return x
}

func TestManyTakersP24P25(t *testing.T) {
	r := rand.New(rand.NewSource(24))
	seen := map[api.Errno]int{}
	for range 20000 {
		x := someTaker(r)
		want := plainCheck(x)
		seen[want]++
		wantCheck(t, x, want)
		if want != api.OK {
			continue
		}
		s, e := Print(x)
		if read, readE := plainParse(s); e != api.OK || readE != api.OK || !same(read, x) {
			t.Errorf("Print(%+v): %q, %d", x, s, e)
		}
		wantTaker(t, s, x)
	}
	for _, e := range []api.Errno{api.OK, api.ErrArg, api.ErrLarge, api.ErrSyntax} {
		if seen[e] < 300 {
			t.Errorf("error %d was met %d times alone", e, seen[e])
		}
	}
}

func FuzzParseP25(f *testing.F) {
	for s := range texts() {
		f.Add(s)
	}
	f.Fuzz(func(t *testing.T, s string) {
		want, wantE := plainParse(s)
		x, e := Parse(s)
		if !same(x, want) || e != wantE {
			t.Errorf("Parse(%q): %+v, %d, want %+v, %d", s, x, e, want, wantE)
		}
		if e == api.OK {
			wantPrint(t, x, s, api.OK)
		}
	})
}

func TestWaitP26(t *testing.T) {
	for _, x := range []struct {
		backoff []int
		waits   map[int]int
	}{
		{nil, map[int]int{math.MinInt: 5, -1: 5, 0: 5, 1: 5, 2: 5, 20: 5, math.MaxInt: 5}},
		{[]int{}, map[int]int{math.MinInt: 5, 0: 5, 1: 5, 2: 5, math.MaxInt: 5}},
		{[]int{9}, map[int]int{math.MinInt: 9, -1: 9, 0: 9, 1: 9, 2: 9, 3: 9, math.MaxInt: 9}},
		{[]int{1, 2, 9}, map[int]int{math.MinInt: 1, math.MinInt + 1: 1, -1: 1, 0: 1, 1: 1, 2: 2, 3: 9, 4: 9, 7: 9, math.MaxInt: 9}},
		{[]int{50, 40, 30, 20, 10}, map[int]int{-5: 50, 0: 50, 1: 50, 2: 40, 3: 30, 4: 20, 5: 10, 6: 10, 20: 10, 1 << 40: 10}},
	} {
		for nth, want := range x.waits {
			if n := Wait(waiting(x.backoff...), nth); n != want {
				t.Errorf("Wait(backoff %v, %d): %d, want %d", x.backoff, nth, n, want)
			}
		}
	}
}

// Wait asks for no plan that is right: it answers by what stands there.
func TestWaitOfWrongPlansP1P26(t *testing.T) {
	for _, x := range []struct {
		of        api.Taker
		nth, want int
	}{
		{api.Taker{}, 1, 0},
		{silent(), 3, 0},
		{api.Taker{Wait: -7}, 2, -7},
		{api.Taker{Wait: math.MaxInt}, -2, math.MaxInt},
		{api.Taker{Backoff: []int{0, -3}}, 2, -3},
		{api.Taker{Wait: 8, Backoff: []int{1, 2, 3, 4, 5, 6, 7}}, 6, 6},
		{api.Taker{Wait: 8, Backoff: []int{1, 2, 3, 4, 5, 6, 7}}, 8, 7},
	} {
		if n := Wait(x.of, x.nth); n != x.want {
			t.Errorf("Wait(%+v, %d): %d, want %d", x.of, x.nth, n, x.want)
		}
	}
}

func place(s string) uintptr { return uintptr(unsafe.Pointer(unsafe.StringData(s))) }

// A text that can't be written to can still share memory with another one: its place tells.
func sharesMemory(a, b string) bool {
	return a != "" && b != "" && place(a) < place(b)+uintptr(len(b)) && place(b) < place(a)+uintptr(len(a))
}

func wantApart(t *testing.T, texts ...string) {
	t.Helper()
	for i, a := range texts {
		for j, b := range texts[:i] {
			if sharesMemory(a, b) {
				t.Errorf("texts %d and %d share memory", i, j)
			}
		}
	}
}

func TestTextsAreNewMemoryP2P25(t *testing.T) {
	s := strings.Clone("worker first.> from=last wait=5 backoff=1,2")
	x, _ := Parse(s)
	y, _ := Parse(s)
	text, _ := Print(x)
	again, _ := Print(x)
	wantApart(t, s, text, again, x.Name, x.Filter, y.Name, y.Filter)
}

func TestListsAreNewMemoryP2P25(t *testing.T) {
	x, _ := Parse("c a wait=5 backoff=1,2,3")
	y, _ := Parse("c a wait=5 backoff=1,2,3")
	room := x.Backoff[:cap(x.Backoff)]
	for i := range room {
		room[i] = 77
	}
	if !same(y, waiting(1, 2, 3)) {
		t.Errorf("another answer changed: %+v", y)
	}
}

func TestArgumentsStayP2P24P25P26(t *testing.T) {
	room := []int{3, 2, 1, 8, 9}
	x := waiting(room[:3]...)
	wantCheck(t, x, api.OK)
	wantPrint(t, x, "c a wait=5 backoff=3,2,1", api.OK)
	if n := Wait(x, 4); n != 1 {
		t.Errorf("Wait: %d", n)
	}
	if !slices.Equal(room, []int{3, 2, 1, 8, 9}) || !same(x, waiting(3, 2, 1)) {
		t.Errorf("changed: %v, %+v", room, x)
	}
}
