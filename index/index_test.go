package index

import (
	"math"
	"slices"
	"strconv"
	"strings"
	"testing"
	"unsafe"

	"rillbook/api"
	"rillbook/subject"
)

const longToken = "abcdefghijklmnop" // MaxToken bytes

var wrongSubjects = []struct {
	s    string
	want api.Errno
}{
	{"", api.ErrSyntax},
	{".", api.ErrSyntax},
	{"a.", api.ErrSyntax},
	{"a..b", api.ErrSyntax},
	{"a b", api.ErrSyntax},
	{"*", api.ErrSyntax},
	{"a.>", api.ErrSyntax},
	{"\xff", api.ErrSyntax},
	{longToken + "q", api.ErrSyntax},
	{strings.Repeat(".", 7), api.ErrSyntax},
	{strings.Repeat(".", 8), api.ErrLarge},
	{"a.b.c.d.e.f.g.h.i", api.ErrLarge},
	{"*.>. .d.e.f.g.h.i", api.ErrLarge},
	{strings.Repeat(".", 100000), api.ErrLarge},
	{strings.Repeat("a", 100000), api.ErrSyntax},
}

func put(t *testing.T, x *Index, s string, v int) {
	t.Helper()
	if e := x.Put(s, v); e != api.OK {
		t.Fatalf("Put(%q, %d): %d", s, v, e)
	}
}

func wantFound(t *testing.T, x *Index, f string, want ...api.Entry) {
	t.Helper()
	found, e := x.Find(f)
	if e != api.OK || !slices.Equal(found, want) {
		t.Errorf("Find(%q): %v, %d, want %v", f, found, e, want)
	}
}

func wantNumber(t *testing.T, x *Index, s string, want int, wantErr api.Errno) {
	t.Helper()
	if v, e := x.Get(s); v != want || e != wantErr {
		t.Errorf("Get(%q): %d, %d, want %d, %d", s, v, e, want, wantErr)
	}
}

func wantCount(t *testing.T, x *Index, want int) {
	t.Helper()
	if n := x.Count(); n != want {
		t.Errorf("Count: %d, want %d", n, want)
	}
}

func full(t *testing.T) *Index {
	t.Helper()
	x := New()
	for i := range api.MaxSubjects {
		put(t, x, "s."+strconv.Itoa(i), i)
	}
	return x
}

func TestEmptyP6(t *testing.T) {
	x := New()
	wantCount(t, x, 0)
	wantFound(t, x, ">")
	wantNumber(t, x, "a", 0, api.ErrNone)
	if e := x.Drop("a"); e != api.ErrNone {
		t.Error(e)
	}
}

func TestPutGetDropP6(t *testing.T) {
	x := New()
	put(t, x, "a.b", 7)
	put(t, x, "a", math.MinInt)
	put(t, x, "a.b.c", 0)
	wantCount(t, x, 3)
	wantNumber(t, x, "a.b", 7, api.OK)
	wantNumber(t, x, "a", math.MinInt, api.OK)
	wantNumber(t, x, "a.b.c", 0, api.OK)
	wantNumber(t, x, "a.c", 0, api.ErrNone)

	put(t, x, "a.b", math.MaxInt)
	wantCount(t, x, 3)
	wantNumber(t, x, "a.b", math.MaxInt, api.OK)

	if e := x.Drop("a.b"); e != api.OK {
		t.Error(e)
	}
	wantCount(t, x, 2)
	wantNumber(t, x, "a.b", 0, api.ErrNone)
	if e := x.Drop("a.b"); e != api.ErrNone {
		t.Error(e)
	}
	wantFound(t, x, ">", api.Entry{Subject: "a", N: math.MinInt}, api.Entry{Subject: "a.b.c"})

	put(t, x, "a.b", -1)
	wantNumber(t, x, "a.b", -1, api.OK)
}

func TestLongestSubjectP6(t *testing.T) {
	x := New()
	s := strings.Repeat(longToken+".", api.MaxTokens-1) + longToken
	put(t, x, s, 5)
	wantNumber(t, x, s, 5, api.OK)
	wantFound(t, x, "*.*.*.*.*.*.*.>", api.Entry{Subject: s, N: 5})
	wantFound(t, x, "*.*.*.*.*.*.*")
}

func TestFullP6(t *testing.T) {
	x := full(t)
	wantCount(t, x, 100)
	for _, s := range []string{"a", "s", "s.100", "s.50.a", "z"} {
		if e := x.Put(s, 1); e != api.ErrFull {
			t.Errorf("Put(%q): %d", s, e)
		}
		wantNumber(t, x, s, 0, api.ErrNone)
	}
	if e := x.Put("a b", 1); e != api.ErrSyntax {
		t.Error(e)
	}
	wantCount(t, x, 100)

	put(t, x, "s.99", -99)
	wantNumber(t, x, "s.99", -99, api.OK)

	if e := x.Drop("s.0"); e != api.OK {
		t.Error(e)
	}
	put(t, x, "z", 1)
	wantCount(t, x, 100)
	if e := x.Put("s.0", 1); e != api.ErrFull {
		t.Error(e)
	}
}

func TestWrongSubjectsChangeNothingP1P2P6(t *testing.T) {
	for _, x := range []*Index{New(), full(t)} {
		ahead, _ := x.Find(">")
		for _, wrong := range wrongSubjects {
			if e := x.Put(wrong.s, 1); e != wrong.want {
				t.Errorf("Put(%.40q): %d, want %d", wrong.s, e, wrong.want)
			}
			if e := x.Drop(wrong.s); e != wrong.want {
				t.Errorf("Drop(%.40q): %d, want %d", wrong.s, e, wrong.want)
			}
			wantNumber(t, x, wrong.s, 0, wrong.want)
		}
		wantFound(t, x, ">", ahead...)
	}
}

func TestWrongFiltersP1P2P6(t *testing.T) {
	x := New()
	put(t, x, "a", 1)
	for _, wrong := range []struct {
		f    string
		want api.Errno
	}{
		{"", api.ErrSyntax},
		{"a.", api.ErrSyntax},
		{">.a", api.ErrSyntax},
		{"a*", api.ErrSyntax},
		{"a\x00", api.ErrSyntax},
		{"a.b.c.d.e.f.g.h.>", api.ErrLarge},
		{strings.Repeat(".", 100000), api.ErrLarge},
	} {
		if found, e := x.Find(wrong.f); e != wrong.want || found != nil {
			t.Errorf("Find(%.40q): %v, %d, want %d", wrong.f, found, e, wrong.want)
		}
	}
}

func TestFindP6(t *testing.T) {
	x := New()
	for i, s := range []string{"b", "a.c", "a", "a.b.c", "a.b"} {
		put(t, x, s, i)
	}
	a, ab, abc, ac, b := api.Entry{Subject: "a", N: 2}, api.Entry{Subject: "a.b", N: 4}, api.Entry{Subject: "a.b.c", N: 3}, api.Entry{Subject: "a.c", N: 1}, api.Entry{Subject: "b"}
	wantFound(t, x, ">", a, ab, abc, ac, b)
	wantFound(t, x, "*", a, b)
	wantFound(t, x, "a.*", ab, ac)
	wantFound(t, x, "a.>", ab, abc, ac)
	wantFound(t, x, "*.b.>", abc)
	wantFound(t, x, "*.*.c", abc)
	wantFound(t, x, "a.b", ab)
	wantFound(t, x, "c")
	wantFound(t, x, "*.*.*.*")
}

// The bytes `!` to `-` are below `.`, so whole texts would lie in another order.
func TestOrderIsByTokensP6(t *testing.T) {
	order := []string{
		"A", "A.z", "a", "a.!", "a.b", "a.b.~", "a.b!", "a.b-.a", "a.z", "a!", "a!.a", "a-", "a/", "aa", "aa.a", "b", "~",
	}
	for turn := range len(order) {
		x := New()
		for i := range order {
			at := (i*5 + turn) % len(order)
			put(t, x, order[at], at)
		}
		found, _ := x.Find(">")
		for i, entry := range found {
			if (entry != api.Entry{Subject: order[i], N: i}) {
				t.Errorf("turn %d, at %d: %v, want %q", turn, i, entry, order[i])
			}
		}
		wantCount(t, x, len(order))
	}
}

// Numbers from a fixed rule lead many calls over few subjects, held against a plain map.
func TestManyCallsP6(t *testing.T) {
	var subjects []string
	tokens := []string{"a", "a-", "b", "ab", "!"}
	for _, first := range tokens {
		subjects = append(subjects, first)
		for _, second := range tokens {
			subjects = append(subjects, first+"."+second)
			for _, third := range tokens {
				subjects = append(subjects, first+"."+second+"."+third)
			}
		}
	}
	filters := []string{">", "*", "*.*", "a.>", "*.a-", "a-.*.b", "*.!.>", "b.ab.!"}
	x, has, rule := New(), map[string]int{}, uint32(1)
	for step := range 20000 {
		rule = rule*1664525 + 1013904223
		s := subjects[int(rule>>8)%len(subjects)]
		_, is := has[s]
		switch rule >> 30 {
		case 0, 1, 2:
			want := api.OK
			if !is && len(has) == api.MaxSubjects {
				want = api.ErrFull
			}
			if e := x.Put(s, step); e != want {
				t.Fatalf("step %d: Put(%q): %d, want %d", step, s, e, want)
			}
			if want == api.OK {
				has[s] = step
			}
		case 3:
			want := api.OK
			if !is {
				want = api.ErrNone
			}
			if e := x.Drop(s); e != want {
				t.Fatalf("step %d: Drop(%q): %d, want %d", step, s, e, want)
			}
			delete(has, s)
		}
		wantCount(t, x, len(has))
		if step%97 == 0 {
			f := filters[int(rule>>16)%len(filters)]
			wantFound(t, x, f, taken(f, has)...)
		}
		if t.Failed() {
			t.Fatalf("step %d", step)
		}
	}
}

func taken(f string, has map[string]int) []api.Entry {
	var list []api.Entry
	for s, n := range has {
		if is, _ := subject.Match(f, s); is {
			list = append(list, api.Entry{Subject: s, N: n})
		}
	}
	// As a byte below all others the dot ends each token ahead of its longer ones.
	key := func(s string) string { return strings.ReplaceAll(s, ".", "\x00") }
	slices.SortFunc(list, func(a, b api.Entry) int {
		return strings.Compare(key(a.Subject), key(b.Subject))
	})
	return list
}

func TestAnswersAreNewMemoryP2P6(t *testing.T) {
	x := New()
	put(t, x, "a", 1)
	put(t, x, "b", 2)
	put(t, x, "c", 3)
	first, _ := x.Find(">")
	second, _ := x.Find(">")
	room := first[:cap(first)]
	for i := range room {
		room[i] = api.Entry{Subject: "z", N: 9}
	}
	want := []api.Entry{{Subject: "a", N: 1}, {Subject: "b", N: 2}, {Subject: "c", N: 3}}
	if !slices.Equal(second, want) {
		t.Errorf("another answer changed: %v", second)
	}
	wantFound(t, x, ">", want...)

	put(t, x, "a", 5)
	if e := x.Drop("b"); e != api.OK {
		t.Error(e)
	}
	if !slices.Equal(second, want) {
		t.Errorf("an answer changed with the index: %v", second)
	}
}

func place(s string) uintptr { return uintptr(unsafe.Pointer(unsafe.StringData(s))) }

// A text that can't be written to can still share memory with another one: its place tells.
func sharesMemory(a, b string) bool {
	return a != "" && b != "" && place(a) < place(b)+uintptr(len(b)) && place(b) < place(a)+uintptr(len(a))
}

func TestTextsAreNewMemoryP2P6(t *testing.T) {
	x := New()
	given := strings.Repeat("a", api.MaxToken)
	put(t, x, given, 1)
	first, _ := x.Find(">")
	second, _ := x.Find(">")
	texts := []string{given, x.entries[0].Subject, first[0].Subject, second[0].Subject}
	for i, a := range texts {
		for j, b := range texts[:i] {
			if sharesMemory(a, b) {
				t.Errorf("texts %d and %d share memory", i, j)
			}
		}
	}
}

func TestIndexesAreApartP2P6(t *testing.T) {
	x, y := New(), New()
	put(t, x, "a", 1)
	put(t, y, "b", 2)
	wantFound(t, x, ">", api.Entry{Subject: "a", N: 1})
	wantFound(t, y, ">", api.Entry{Subject: "b", N: 2})
	wantCount(t, New(), 0)
}

// An Index that New didn't make isn't nil, so it must answer, too.
func TestZeroIndexAnswersP1P6(t *testing.T) {
	var x Index
	wantCount(t, &x, 0)
	wantNumber(t, &x, "a", 0, api.ErrNone)
	put(t, &x, "a", 1)
	wantFound(t, &x, "*", api.Entry{Subject: "a", N: 1})
}
