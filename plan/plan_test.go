package plan

import (
	"math"
	"math/rand"
	"reflect"
	"regexp"
	"slices"
	"strconv"
	"strings"
	"testing"
	"unsafe"

	"rillbook/api"
	"rillbook/subject"
)

func named(name string) api.Plan {
	return api.Plan{Name: name, Filters: []string{"a"}}
}

func filtering(filters ...string) api.Plan {
	return api.Plan{Name: "s", Filters: filters}
}

// rows of tokens of eight and nine, which are one too many.
const (
	eight = "a.b.c.d.e.f.g.h"
	nine  = eight + ".i"
)

// longest is a filter with as many bytes as one can have, that begins with its own letter.
func longest(letter string) string {
	token := strings.Repeat(letter, api.MaxToken)
	return strings.Repeat(token+".", api.MaxTokens-1) + token
}

func same(p, q api.Plan) bool {
	is := slices.Equal(p.Filters, q.Filters)
	p.Filters, q.Filters = nil, nil
	return is && reflect.DeepEqual(p, q)
}

func isZero(p api.Plan) bool {
	return same(p, api.Plan{})
}

func wantCheck(t *testing.T, p api.Plan, want api.Errno) {
	t.Helper()
	if e := Check(p); e != want {
		t.Errorf("Check(%+v): %d, want %d", p, e, want)
	}
	// Print asks Check first, so its errors are Print's, too.
	if want != api.OK {
		wantPrint(t, p, "", want)
	}
}

func wantPrint(t *testing.T, p api.Plan, s string, want api.Errno) {
	t.Helper()
	if text, e := Print(p); text != s || e != want {
		t.Errorf("Print(%+v): %q, %d, want %q, %d", p, text, e, s, want)
	}
}

func wantPlan(t *testing.T, s string, want api.Plan) {
	t.Helper()
	if p, e := Parse(s); !same(p, want) || e != api.OK {
		t.Errorf("Parse(%q): %+v, %d, want %+v", s, p, e, want)
	}
}

func wantNoPlan(t *testing.T, s string, want api.Errno) {
	t.Helper()
	if p, e := Parse(s); !isZero(p) || e != want {
		t.Errorf("Parse(%.80q): %+v, %d, want %d", s, p, e, want)
	}
}

func TestNamesP19(t *testing.T) {
	for b := range 256 {
		letter := string([]byte{byte(b)})
		want := api.ErrSyntax
		if strings.Contains("abcdefghijklmnopqrstuvwxyz0123456789-", letter) {
			want = api.OK
		}
		for _, name := range []string{letter, "a" + letter, letter + "a", "a" + letter + "a"} {
			wantCheck(t, named(name), want)
		}
	}
	for _, name := range []string{"-", "--", "0", "jobs-2", strings.Repeat("n", 16)} {
		wantCheck(t, named(name), api.OK)
	}
	for _, name := range []string{"", "A", "s.t", "s t", "é", "a\x00", "\xff", strings.Repeat("n", 17), strings.Repeat("n", 5000)} {
		wantCheck(t, named(name), api.ErrSyntax)
	}
}

// Other packages ask for names and numbers alone.
func TestIsNameP19(t *testing.T) {
	for s, want := range map[string]bool{
		"s": true, "-": true, "jobs-2": true, strings.Repeat("n", 16): true,
		"": false, "S": false, "a b": false, "a.b": false, "é": false, strings.Repeat("n", 17): false,
	} {
		if is := IsName(s); is != want {
			t.Errorf("IsName(%q): %t", s, is)
		}
	}
}

func TestReadNumberP20(t *testing.T) {
	for s, want := range map[string]int{"1": 1, "10": 10, "300": 300, "123456789": 123456789, "999999999": 999999999} {
		if n, is := ReadNumber(s); n != want || !is {
			t.Errorf("ReadNumber(%q): %d, %t", s, n, is)
		}
	}
	for _, s := range []string{"", "0", "00", "01", "-1", "+1", " 1", "1 ", "1a", "0x1", "1_0", "1000000000", "0000000001", strings.Repeat("1", 5000)} {
		if n, is := ReadNumber(s); n != 0 || is {
			t.Errorf("ReadNumber(%.20q): %d, %t", s, n, is)
		}
	}
}

func TestHowManyFiltersP19(t *testing.T) {
	wantCheck(t, filtering(), api.ErrArg)
	wantCheck(t, api.Plan{Name: "s", Filters: []string{}}, api.ErrArg)
	wantCheck(t, filtering("a"), api.OK)
	wantCheck(t, filtering("a", "b"), api.OK)
	wantCheck(t, filtering("a", "b", "c", "d"), api.OK)
	wantCheck(t, filtering("a", "b", "c", "d", "e"), api.ErrLarge)
	wantCheck(t, filtering(make([]string, 10000)...), api.ErrLarge)
}

func TestFiltersP19(t *testing.T) {
	for _, f := range []string{">", "*", "a.*.b", "a.>", eight, longest("a"), "a,b", "msgs=3", "A"} {
		wantCheck(t, filtering(f), api.OK)
	}
	for _, f := range []string{"", ".", "a..b", ">.a", "a b", "a\n", "é", strings.Repeat("a", 17)} {
		wantCheck(t, filtering(f), api.ErrSyntax)
	}
	wantCheck(t, filtering(nine), api.ErrLarge)
	wantCheck(t, filtering("a", "b..c", nine), api.ErrSyntax)
	wantCheck(t, filtering("a", nine, "b..c"), api.ErrLarge)
	wantCheck(t, filtering("a", "b", "c", nine), api.ErrLarge)
}

func TestFiltersThatOverlapP19(t *testing.T) {
	for _, pair := range [][2]string{{"a", "a"}, {"a", "*"}, {">", "b.c"}, {"a.*", "*.b"}, {"a.>", "a.b.c"}, {"*", "*"}} {
		f, g := pair[0], pair[1]
		for _, filters := range [][]string{
			{f, g}, {g, f},
			{f, "x.x.x.x", g}, {"x.x.x.x", f, g}, {f, g, "x.x.x.x"},
			{f, "x.x.x.x", "y.y.y.y", g}, {"x.x.x.x", f, "y.y.y.y", g}, {f, "x.x.x.x", g, "y.y.y.y"},
		} {
			wantCheck(t, filtering(filters...), api.ErrMatch)
		}
	}
	wantCheck(t, filtering("a.>", "a"), api.OK)
	wantCheck(t, filtering("*", "*.*", "a.b.c", "*.*.*.>"), api.OK)
	wantCheck(t, filtering("a.*.c", "*.b.d"), api.OK)
}

// field is one of a plan's numbers, by its word.
type field struct {
	word string
	most int
	of   func(p *api.Plan) *int
}

func fields() []field {
	return []field{
		{"msgs", 200, func(p *api.Plan) *int { return &p.MaxMsgs }},
		{"bytes", 65536, func(p *api.Plan) *int { return &p.MaxBytes }},
		{"age", 100000, func(p *api.Plan) *int { return &p.MaxAge }},
		{"per", 200, func(p *api.Plan) *int { return &p.MaxPer }},
		{"size", 256, func(p *api.Plan) *int { return &p.MaxSize }},
		{"discard", 1, func(p *api.Plan) *int { return &p.Discard }},
		{"keep", 2, func(p *api.Plan) *int { return &p.Keep }},
		{"window", 100000, func(p *api.Plan) *int { return &p.Window }},
	}
}

func withNumber(f field, n int) api.Plan {
	p := named("s")
	*f.of(&p) = n
	return p
}

func TestNumbersP19(t *testing.T) {
	for _, f := range fields() {
		for _, n := range []int{0, 1, f.most - 1, f.most} {
			wantCheck(t, withNumber(f, n), api.OK)
		}
		for _, n := range []int{-1, f.most + 1, 1 << 32, 1<<32 + 1, math.MinInt, math.MaxInt} {
			wantCheck(t, withNumber(f, n), api.ErrArg)
		}
	}
	wantCheck(t, api.Plan{Name: "s", Filters: []string{"a"}, MaxMsgs: 200, MaxBytes: 65536, MaxAge: 100000,
		MaxPer: 200, MaxSize: 256, Discard: 1, Keep: 2, Window: 100000}, api.OK)
}

// Each plan has all faults but those that the ones ahead had: the first one that is left is told.
func TestOrderOfErrorsP19(t *testing.T) {
	p := api.Plan{Name: "S", Filters: []string{"a..b", nine, "c", "c", "d"}, MaxMsgs: -1}
	wantCheck(t, p, api.ErrSyntax)
	p.Name = "s"
	wantCheck(t, p, api.ErrLarge)
	p.Filters = []string{nine, "a..b", "c", "c"}
	wantCheck(t, p, api.ErrLarge)
	p.Filters = []string{"c", "c", "a..b", nine}
	wantCheck(t, p, api.ErrSyntax)
	p.Filters = []string{"c", "c"}
	wantCheck(t, p, api.ErrMatch)
	p.Filters = []string{"c"}
	wantCheck(t, p, api.ErrArg)
	p.MaxMsgs = 0
	wantCheck(t, p, api.OK)
	p.Name, p.Filters = "", nil
	wantCheck(t, p, api.ErrSyntax)
	wantCheck(t, api.Plan{}, api.ErrSyntax)
}

// texts that are told of a plan, and the plan that is read of them.
func texts() map[string]api.Plan {
	full := api.Plan{Name: "jobs-1", Filters: []string{"a.>", "b", "c.*", "d"}, MaxMsgs: 200, MaxBytes: 65536,
		MaxAge: 100000, MaxPer: 199, MaxSize: 256, Discard: api.DiscardNew, Keep: api.KeepWork, Window: 99999}
	list := map[string]api.Plan{
		"s a":         named("s"),
		"s a.>,b":     filtering("a.>", "b"),
		"s b,a.>":     filtering("b", "a.>"),
		"0 >":         {Name: "0", Filters: []string{">"}},
		"s a=1":       filtering("a=1"),
		"s msgs=3":    filtering("msgs=3"),
		"msgs msgs=0": {Name: "msgs", Filters: []string{"msgs=0"}},
		"jobs-1 a.>,b,c.*,d msgs=200 bytes=65536 age=100000 per=199 size=256 discard=1 keep=2 window=99999": full,
		"s a.>,b per=3":          {Name: "s", Filters: []string{"a.>", "b"}, MaxPer: 3},
		"s a msgs=10 window=100": {Name: "s", Filters: []string{"a"}, MaxMsgs: 10, Window: 100},
		"s a keep=1":             {Name: "s", Filters: []string{"a"}, Keep: api.KeepInterest},
	}
	for _, f := range fields() {
		list["s a "+f.word+"=1"] = withNumber(f, 1)
		list["s a "+f.word+"="+strconv.Itoa(f.most)] = withNumber(f, f.most)
	}
	return list
}

func TestTextsP20(t *testing.T) {
	for s, p := range texts() {
		wantPrint(t, p, s, api.OK)
		wantPlan(t, s, p)
	}
}

// The longest text that a plan has can be read, too.
func TestLongestTextP20(t *testing.T) {
	p := api.Plan{Name: strings.Repeat("n", 16), Filters: []string{longest("a"), longest("b"), longest("c"), longest("d")},
		MaxMsgs: 200, MaxBytes: 65536, MaxAge: 100000, MaxPer: 200, MaxSize: 256, Discard: 1, Keep: 2, Window: 100000}
	s := p.Name + " " + strings.Join(p.Filters, ",") +
		" msgs=200 bytes=65536 age=100000 per=200 size=256 discard=1 keep=2 window=100000"
	wantPrint(t, p, s, api.OK)
	wantPlan(t, s, p)
}

// The comma is asked for behind Check: its errors are told first.
func TestPrintOfFiltersWithCommasP20(t *testing.T) {
	for _, filters := range [][]string{{"a,b"}, {","}, {"a", "b,"}, {",a.>", "b"}, {"a", "b", "c", "d.*.e,"}} {
		p := filtering(filters...)
		wantPrint(t, p, "", api.ErrSyntax)
		p.Keep = 3
		wantPrint(t, p, "", api.ErrArg)
	}
	wantPrint(t, filtering("a,b", "a,b"), "", api.ErrMatch)
	wantPrint(t, filtering("a,b", nine), "", api.ErrLarge)
}

func TestTextsThatAreNoneP20(t *testing.T) {
	for _, s := range []string{
		"", "s", " ", "s ", " a", " s a", "s a ", "s  a", "s a  msgs=1", "s a msgs=1 ", "s a msgs=1  per=1",
		"s\ta", "s a\n", "s a\tmsgs=1", "s a, b", "s a ,b",
		"s ,", "s a,", "s ,a", "s a,,b", "s a..b", "s a.>.b",
		"S a", "s.t a", "é a", strings.Repeat("n", 17) + " a",
		"s a b", "s a msgs", "s a =", "s a =1", "s a 1", "s a msgs1", "s a msgs:1", "s a msgs =1", "s a msgs= 1",
		"s a Msgs=1", "s a MSGS=1", "s a msg=1", "s a msgss=1", "s a xmsgs=1", "s a name=1", "s a push",
		"s a msgs=1,per=1", "s a msgs=1 x", "s a window=1 x=1",
	} {
		wantNoPlan(t, s, api.ErrSyntax)
	}
}

func TestNumbersThatAreNoneP20(t *testing.T) {
	for _, f := range fields() {
		for _, n := range []string{
			"", "0", "00", "01", "0001", "000000001", "-1", "+1", "-0", "1.0", "1e1", "0x1", "1_0", "a", "1a", "a1", "=1", "1=", "1=1",
			"1000000000", "0000000001", "9999999999", "18446744073709551617", strings.Repeat("1", 900), "1\x00", "1\n", "٣", "1/", "1:",
		} {
			wantNoPlan(t, "s a "+f.word+"="+n, api.ErrSyntax)
		}
		for _, n := range []string{strconv.Itoa(f.most + 1), "100001", "999999999", "100000000"} {
			wantNoPlan(t, "s a "+f.word+"="+n, api.ErrArg)
		}
	}
}

func TestOrderOfWordsP20(t *testing.T) {
	list := fields()
	for i, f := range list {
		for j, g := range list {
			s := "s a " + f.word + "=1 " + g.word + "=1"
			if i >= j {
				wantNoPlan(t, s, api.ErrSyntax)
				wantNoPlan(t, "s a msgs=1 "+f.word+"=1 "+g.word+"=1", api.ErrSyntax)
				continue
			}
			p := withNumber(f, 1)
			*g.of(&p) = 1
			wantPlan(t, s, p)
		}
	}
	wantNoPlan(t, "s a per=2 msgs=3", api.ErrSyntax)
	wantNoPlan(t, "s a msgs=3 msgs=3", api.ErrSyntax)
}

func TestErrorsOfParseP20(t *testing.T) {
	for s, want := range map[string]api.Errno{
		"s a,*":               api.ErrMatch,
		"s a,b,a":             api.ErrMatch,
		"s a,b,c,d,e":         api.ErrLarge,
		"s a,b,c,d,e,f":       api.ErrLarge,
		"s " + nine:           api.ErrLarge,
		"s a,b,b msgs=201":    api.ErrMatch,
		"s a msgs=201":        api.ErrArg,
		"s a discard=2":       api.ErrArg,
		"s a keep=3":          api.ErrArg,
		"S a,a msgs=201":      api.ErrSyntax,
		"s a,a msgs=0":        api.ErrSyntax,
		"s a,b,c,d,e msgs=01": api.ErrSyntax,
		"s a,a x":             api.ErrSyntax,
		"s a msgs=201 per=0":  api.ErrSyntax,
		"s " + nine + " ":     api.ErrSyntax,
	} {
		wantNoPlan(t, s, want)
	}
}

// How long a text is is asked first, whatever is in it.
func TestLongTextsP20(t *testing.T) {
	list := "s a" + strings.Repeat(",a", 510)
	wantNoPlan(t, list+"b", api.ErrLarge)
	for _, x := range []struct {
		n    int
		want api.Errno
	}{{1023, api.ErrSyntax}, {1024, api.ErrSyntax}, {1025, api.ErrLarge}, {1 << 20, api.ErrLarge}} {
		for _, letter := range []string{"a", " ", "="} {
			wantNoPlan(t, strings.Repeat(letter, x.n), x.want)
		}
		front := "s a msgs=1"
		wantNoPlan(t, front+strings.Repeat(" ", x.n-len(front)), x.want)
		front = "s a msgs="
		wantNoPlan(t, front+strings.Repeat("1", x.n-len(front)), x.want)
		wantNoPlan(t, "s "+strings.Repeat("a", x.n-2), x.want)
	}
}

var (
	plainForm = regexp.MustCompile(formOfTexts())
	plainName = regexp.MustCompile(`^[a-z0-9-]{1,16}$`)
)

func formOfTexts() string {
	form := `^([^ ]*) ([^ ]*)`
	for _, f := range fields() {
		form += `(?: ` + f.word + `=([1-9][0-9]{0,8}))?`
	}
	return form + `$`
}

// plainParse says the form by a pattern, as the document tells it.
func plainParse(s string) (api.Plan, api.Errno) {
	if len(s) > 1024 {
		return api.Plan{}, api.ErrLarge
	}
	parts := plainForm.FindStringSubmatch(s)
	if parts == nil {
		return api.Plan{}, api.ErrSyntax
	}
	p := api.Plan{Name: parts[1], Filters: strings.Split(parts[2], ",")}
	for i, f := range fields() {
		if parts[3+i] != "" {
			*f.of(&p), _ = strconv.Atoi(parts[3+i])
		}
	}
	if e := plainCheck(p); e != api.OK {
		return api.Plan{}, e
	}
	return p, api.OK
}

func plainCheck(p api.Plan) api.Errno {
	if !plainName.MatchString(p.Name) {
		return api.ErrSyntax
	}
	switch {
	case len(p.Filters) > 4:
		return api.ErrLarge
	case len(p.Filters) == 0:
		return api.ErrArg
	}
	for _, f := range p.Filters {
		if e := subject.Filter(f); e != api.OK {
			return e
		}
	}
	for i := range p.Filters {
		for j := range p.Filters {
			if is, _ := subject.Overlap(p.Filters[i], p.Filters[j]); is && i != j {
				return api.ErrMatch
			}
		}
	}
	for _, f := range fields() {
		if n := *f.of(&p); n < 0 || n > f.most {
			return api.ErrArg
		}
	}
	return api.OK
}

// pick takes one of a list, and mostly the first one.
func pick(r *rand.Rand, list ...string) string {
	if r.Intn(3) > 0 {
		return list[0]
	}
	return list[r.Intn(len(list))]
}

// someText is nearly a plan's text: each part is wrong now and then.
func someText(r *rand.Rand) string {
	s := pick(r, "s", "", "S", "jobs-1", "a,b", strings.Repeat("n", 16), strings.Repeat("n", 17))
	s += pick(r, " ", "", "  ", "\t")
	s += pick(r, "a", "b.*", "", ">", "a..b", nine)
	for range r.Intn(4) + r.Intn(2) {
		s += pick(r, ",", ",", ",,", " ", ".") + pick(r, string(rune('b'+r.Intn(9))), "c", "*.*", "d.>", "", nine)
	}
	for _, f := range fields() {
		if r.Intn(3) > 0 {
			continue
		}
		s += pick(r, " ", "", "  ", ",") + pick(r, f.word, fields()[r.Intn(8)].word, "x", "")
		s += pick(r, "=", "", "==", " ") + pick(r, "1", strconv.Itoa(f.most), strconv.Itoa(f.most+1), "0", "01", "", "999999999", "1000000000")
	}
	return s + pick(r, "", "", "", "", " ", "x", "1", " x=1")
}

func TestManyTextsP19P20(t *testing.T) {
	r := rand.New(rand.NewSource(9))
	seen := map[api.Errno]int{}
	for range 20000 {
		s := someText(r)
		want, wantE := plainParse(s)
		seen[wantE]++
		if wantE != api.OK {
			wantNoPlan(t, s, wantE)
			continue
		}
		wantPlan(t, s, want)
		// A plan has one text alone, so what was read is told as it was.
		wantPrint(t, want, s, api.OK)
	}
	for _, e := range []api.Errno{api.OK, api.ErrArg, api.ErrLarge, api.ErrSyntax, api.ErrMatch} {
		if seen[e] < 20 {
			t.Errorf("error %d was met %d times alone", e, seen[e])
		}
	}
}

func somePlan(r *rand.Rand) api.Plan {
	p := api.Plan{Name: pick(r, "s", "", "S", "jobs-1")}
	for range r.Intn(5) + r.Intn(20)/19 {
		p.Filters = append(p.Filters, pick(r, string(rune('a'+r.Intn(20))), "b,c", "*", "x.>", "", nine))
	}
	for _, f := range fields() {
		switch r.Intn(30) {
		case 0:
			*f.of(&p) = -1
		case 1:
			*f.of(&p) = f.most + 1
		case 2, 3, 4, 5, 6:
			*f.of(&p) = r.Intn(f.most + 1)
		}
	}
	return p
}

func TestManyPlansP19P20(t *testing.T) {
	r := rand.New(rand.NewSource(19))
	for range 20000 {
		p := somePlan(r)
		want := plainCheck(p)
		wantCheck(t, p, want)
		if want != api.OK {
			continue
		}
		s, e := Print(p)
		if strings.Contains(strings.Join(p.Filters, ""), ",") {
			if s != "" || e != api.ErrSyntax {
				t.Errorf("Print(%+v): %q, %d", p, s, e)
			}
			continue
		}
		wantPlan(t, s, p)
	}
}

func FuzzParseP20(f *testing.F) {
	for s := range texts() {
		f.Add(s)
	}
	f.Fuzz(func(t *testing.T, s string) {
		want, wantE := plainParse(s)
		if p, e := Parse(s); !same(p, want) || e != wantE {
			t.Errorf("Parse(%q): %+v, %d, want %+v, %d", s, p, e, want, wantE)
		}
	})
}

func place(s string) uintptr { return uintptr(unsafe.Pointer(unsafe.StringData(s))) }

// A text that can't be written to can still share memory with another one: its place tells.
func sharesMemory(a, b string) bool {
	return a != "" && b != "" && place(a) < place(b)+uintptr(len(b)) && place(b) < place(a)+uintptr(len(a))
}

func wantApart(t *testing.T, texts ...string) {
	t.Helper()
	for i, a := range texts {
		for j, b := range texts[:i] {
			if sharesMemory(a, b) {
				t.Errorf("texts %d and %d share memory", i, j)
			}
		}
	}
}

func TestTextsAreNewMemoryP2P20(t *testing.T) {
	s := strings.Clone("jobs first.>,second per=3")
	p, _ := Parse(s)
	q, _ := Parse(s)
	text, _ := Print(p)
	again, _ := Print(p)
	wantApart(t, s, text, again, p.Name, p.Filters[0], p.Filters[1], q.Name, q.Filters[0], q.Filters[1])

	p, _ = Parse("jobs first")
	text, _ = Print(p)
	wantApart(t, text, p.Name, p.Filters[0])
}

func TestListsAreNewMemoryP2P20(t *testing.T) {
	p, _ := Parse("s a,b,c")
	q, _ := Parse("s a,b,c")
	room := p.Filters[:cap(p.Filters)]
	for i := range room {
		room[i] = "z"
	}
	if !same(q, filtering("a", "b", "c")) {
		t.Errorf("another answer changed: %+v", q)
	}
}

func TestArgumentsStayP2P19P20(t *testing.T) {
	room := []string{"c", "b", "a", "x", "y"}
	p := api.Plan{Name: "s", Filters: room[:3], MaxPer: 3}
	wantCheck(t, p, api.OK)
	wantPrint(t, p, "s c,b,a per=3", api.OK)
	if !slices.Equal(room, []string{"c", "b", "a", "x", "y"}) || len(p.Filters) != 3 || p.MaxPer != 3 || p.Name != "s" {
		t.Errorf("changed: %v, %+v", room, p)
	}
}
