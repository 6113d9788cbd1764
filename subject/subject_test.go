package subject

import (
	"strings"
	"testing"

	"rillbook/api"
)

const longToken = "abcdefghijklmnop" // MaxToken bytes

func TestSubjectP3(t *testing.T) {
	for _, x := range []struct {
		s    string
		want api.Errno
	}{
		{"a", api.OK},
		{"a.b", api.OK},
		{"a.b.c.d.e.f.g.h", api.OK},
		{longToken, api.OK},
		{strings.Repeat(longToken+".", 7) + longToken, api.OK},
		{"!.~", api.OK},
		{"", api.ErrSyntax},
		{".", api.ErrSyntax},
		{".a", api.ErrSyntax},
		{"a.", api.ErrSyntax},
		{"a..b", api.ErrSyntax},
		{"a b", api.ErrSyntax},
		{"a.b\n", api.ErrSyntax},
		{"*", api.ErrSyntax},
		{">", api.ErrSyntax},
		{"a.*", api.ErrSyntax},
		{"a.>", api.ErrSyntax},
		{"a.b*", api.ErrSyntax},
		{"a.>b", api.ErrSyntax},
		{longToken + "q", api.ErrSyntax},
		{"a." + longToken + "q", api.ErrSyntax},
		{"\u00e4", api.ErrSyntax},
		{strings.Repeat(".", 7), api.ErrSyntax},
		{strings.Repeat(".", 8), api.ErrLarge},
		{"a.b.c.d.e.f.g.h.", api.ErrLarge},
		{"a.b.c.d.e.f.g.h.i", api.ErrLarge},
		{"*.>. ." + longToken + "q.e.f.g.h.i", api.ErrLarge},
		{strings.Repeat(".", 100000), api.ErrLarge},
		{strings.Repeat("a", 100000), api.ErrSyntax},
	} {
		if e := Subject(x.s); e != x.want {
			t.Errorf("Subject(%.40q): %d, want %d", x.s, e, x.want)
		}
	}
}

func TestFilterP3(t *testing.T) {
	for _, x := range []struct {
		s    string
		want api.Errno
	}{
		{"a.b", api.OK},
		{"*", api.OK},
		{">", api.OK},
		{"*.a", api.OK},
		{"a.*.b", api.OK},
		{"*.*.>", api.OK},
		{"*.*.*.*.*.*.*.*", api.OK},
		{"a.b.c.d.e.f.g.>", api.OK},
		{longToken + ".>", api.OK},
		{"", api.ErrSyntax},
		{"a..>", api.ErrSyntax},
		{".*", api.ErrSyntax},
		{"*.", api.ErrSyntax},
		{">.", api.ErrSyntax},
		{">.a", api.ErrSyntax},
		{"a.>.*", api.ErrSyntax},
		{">.>", api.ErrSyntax},
		{"**", api.ErrSyntax},
		{">>", api.ErrSyntax},
		{"*>", api.ErrSyntax},
		{"a*", api.ErrSyntax},
		{"a>", api.ErrSyntax},
		{"*. ", api.ErrSyntax},
		{longToken + "q.>", api.ErrSyntax},
		{"a.b.c.d.e.f.g.h.>", api.ErrLarge},
		{">.*.*.*.*.*.*.*.*", api.ErrLarge},
		{strings.Repeat(".", 8), api.ErrLarge},
	} {
		if e := Filter(x.s); e != x.want {
			t.Errorf("Filter(%.40q): %d, want %d", x.s, e, x.want)
		}
	}
}

func TestBytesOfTokensP3(t *testing.T) {
	for b := range 256 {
		one := string([]byte{byte(b)})
		inSubject, inFilter := api.OK, api.OK
		if b < 33 || b > 126 || one == "." || one == "*" || one == ">" {
			inSubject, inFilter = api.ErrSyntax, api.ErrSyntax
		}
		if one == "*" || one == ">" {
			inFilter = api.OK
		}
		if e := Subject(one); e != inSubject {
			t.Errorf("Subject of byte %d: %d, want %d", b, e, inSubject)
		}
		if e := Filter(one); e != inFilter {
			t.Errorf("Filter of byte %d: %d, want %d", b, e, inFilter)
		}
		if one == "." {
			continue
		}
		within := "x" + one + "y"
		want := inSubject
		if e := Subject(within); e != want {
			t.Errorf("Subject with byte %d inside: %d, want %d", b, e, want)
		}
		if e := Filter(within); e != want {
			t.Errorf("Filter with byte %d inside: %d, want %d", b, e, want)
		}
	}
}

func TestMatchP4(t *testing.T) {
	for _, x := range []struct {
		f, s string
		want bool
	}{
		{"a.*.>", "a.b.c", true},
		{"a.*.>", "a.b", false},
		{"a.*.>", "a.b.c.d.e", true},
		{"a", "a", true},
		{"a", "b", false},
		{"a", "A", false},
		{"a", "a.b", false},
		{"a.b", "a", false},
		{"a", "ab", false},
		{"ab", "a", false},
		{"*", "a", true},
		{"*", "a.b", false},
		{"*.b", "a.b", true},
		{"*.b", "a.c", false},
		{"a.*", "a", false},
		{">", "a", true},
		{">", "a.b.c.d.e.f.g.h", true},
		{"a.>", "a", false},
		{"a.>", "a.b", true},
		{"a.>", "b.b", false},
		{"*.*.*.*.*.*.*.*", "a.b.c.d.e.f.g.h", true},
		{"a.b.c.d.e.f.g.>", "a.b.c.d.e.f.g.h", true},
	} {
		is, e := Match(x.f, x.s)
		if e != api.OK || is != x.want {
			t.Errorf("Match(%q, %q): %v %d, want %v", x.f, x.s, is, e, x.want)
		}
	}
}

func TestErrorsOfPairsP4P5(t *testing.T) {
	const large = "a.b.c.d.e.f.g.h.i"
	for _, x := range []struct {
		f, g         string
		match, pairs api.Errno
	}{
		{"a", "a", api.OK, api.OK},
		{"", "a", api.ErrSyntax, api.ErrSyntax},
		{"a", "", api.ErrSyntax, api.ErrSyntax},
		{"a", "*", api.ErrSyntax, api.OK},
		{"a", ">", api.ErrSyntax, api.OK},
		{large, "a", api.ErrLarge, api.ErrLarge},
		{"a", large, api.ErrLarge, api.ErrLarge},
		{large, "", api.ErrLarge, api.ErrLarge},
		{"", large, api.ErrSyntax, api.ErrSyntax},
		{">.a", large, api.ErrSyntax, api.ErrSyntax},
		{large, large, api.ErrLarge, api.ErrLarge},
	} {
		if is, e := Match(x.f, x.g); e != x.match || e != api.OK && is {
			t.Errorf("Match(%q, %q): %v %d, want error %d", x.f, x.g, is, e, x.match)
		}
		if is, e := Overlap(x.f, x.g); e != x.pairs || e != api.OK && is {
			t.Errorf("Overlap(%q, %q): %v %d, want error %d", x.f, x.g, is, e, x.pairs)
		}
		if is, e := Covers(x.f, x.g); e != x.pairs || e != api.OK && is {
			t.Errorf("Covers(%q, %q): %v %d, want error %d", x.f, x.g, is, e, x.pairs)
		}
	}
}

func TestOverlapAndCoversP5(t *testing.T) {
	for _, x := range []struct {
		f, g       string
		meet, over bool
	}{
		{"a", "a", true, true},
		{"a", "b", false, false},
		{"*", "a", true, true},
		{"a", "*", true, false},
		{"*", "*", true, true},
		{">", ">", true, true},
		{">", "*", true, true},
		{"*", ">", true, false},
		{"a", ">", true, false},
		{">", "a.b.c", true, true},
		{"a.>", "a", false, false},
		{"a", "a.>", false, false},
		{"a.>", "a.>", true, true},
		{"a.>", "*.>", true, false},
		{"*.>", "a.>", true, true},
		{"a.>", "a.*.>", true, true},
		{"a.*.>", "a.>", true, false},
		{"a.>", "b.>", false, false},
		{"a.*", "*.b", true, false},
		{"a.*.c", "a.b.*", true, false},
		{"a.*.c", "a.b.d", false, false},
		{"a.b", "a.b.c", false, false},
		{"*.*", "a", false, false},
		// Rows are of any number of tokens, also of more than a subject may have.
		{"*.*.*.*.*.*.*.*", "*.*.*.*.*.*.*.>", true, false},
		{"*.*.*.*.*.*.*.>", "*.*.*.*.*.*.*.*", true, true},
	} {
		if is, e := Overlap(x.f, x.g); e != api.OK || is != x.meet {
			t.Errorf("Overlap(%q, %q): %v %d, want %v", x.f, x.g, is, e, x.meet)
		}
		if is, e := Overlap(x.g, x.f); e != api.OK || is != x.meet {
			t.Errorf("Overlap(%q, %q): %v %d, want %v", x.g, x.f, is, e, x.meet)
		}
		if is, e := Covers(x.f, x.g); e != api.OK || is != x.over {
			t.Errorf("Covers(%q, %q): %v %d, want %v", x.f, x.g, is, e, x.over)
		}
	}
}

// rowsOf tells all rows of 1 to most of these tokens.
func rowsOf(names []string, most int) [][]string {
	var all [][]string
	longest := [][]string{nil}
	for range most {
		var longer [][]string
		for _, row := range longest {
			for _, name := range names {
				longer = append(longer, append(row[:len(row):len(row)], name))
			}
		}
		all = append(all, longer...)
		longest = longer
	}
	return all
}

// takesByWords is P4 once more, written otherwise, to hold the program against.
func takesByWords(f, row []string) bool {
	switch {
	case len(f) == 0 || len(row) == 0:
		return len(f) == len(row)
	case f[0] == ">":
		return true
	case f[0] == "*" || f[0] == row[0]:
		return takesByWords(f[1:], row[1:])
	}
	return false
}

func filtersOf(most int) []string {
	var all []string
	for _, row := range rowsOf([]string{"a", "b", "*", ">"}, most) {
		f := strings.Join(row, ".")
		if Filter(f) == api.OK {
			all = append(all, f)
		}
	}
	return all
}

// All small filters are held against what they take: rows one token longer than a filter, and a
// token that none of them names, tell apart all that can be told apart.
func TestAllSmallFiltersP4P5(t *testing.T) {
	rows := rowsOf([]string{"a", "b", "x"}, 4)
	filters := filtersOf(3)
	taken := make([][]bool, len(filters))
	for i, f := range filters {
		taken[i] = make([]bool, len(rows))
		for j, row := range rows {
			taken[i][j] = takesByWords(strings.Split(f, "."), row)
			is, e := Match(f, strings.Join(row, "."))
			if e != api.OK || is != taken[i][j] {
				t.Fatalf("Match(%q, %q): %v %d", f, row, is, e)
			}
		}
	}
	for i, f := range filters {
		for j, g := range filters {
			meets, covers := false, true
			for k := range rows {
				meets = meets || taken[i][k] && taken[j][k]
				covers = covers && (taken[i][k] || !taken[j][k])
			}
			if is, e := Overlap(f, g); e != api.OK || is != meets {
				t.Errorf("Overlap(%q, %q): %v %d, want %v", f, g, is, e, meets)
			}
			if is, e := Covers(f, g); e != api.OK || is != covers {
				t.Errorf("Covers(%q, %q): %v %d, want %v", f, g, is, e, covers)
			}
		}
	}
}

// textsOf tells all texts of at most most of these bytes.
func textsOf(letters string, most int) []string {
	all := []string{""}
	for from := 0; most > 0; most-- {
		till := len(all)
		for _, s := range all[from:till] {
			for i := range len(letters) {
				all = append(all, s+letters[i:i+1])
			}
		}
		from = till
	}
	return all
}

type answers struct {
	subject, filter, match, overlap, covers api.Errno
	takes, meets, holds                     bool
}

func ask(f, s string) answers {
	var a answers
	a.subject, a.filter = Subject(s), Filter(f)
	a.takes, a.match = Match(f, s)
	a.meets, a.overlap = Overlap(f, s)
	a.holds, a.covers = Covers(f, s)
	return a
}

// Whatever is given, each call answers, with no true beside an error.
func TestAnyTextIsAnsweredP1P2(t *testing.T) {
	texts := textsOf("a.*> \x00\xff", 3)
	texts = append(texts, strings.Repeat(".", 9), strings.Repeat("a.", 1000), strings.Repeat("*", 1000))
	for _, f := range texts {
		for _, s := range texts {
			a := ask(f, s)
			if a.match != api.OK && a.takes || a.overlap != api.OK && a.meets || a.covers != api.OK && a.holds {
				t.Fatalf("%q, %q: true beside an error: %+v", f, s, a)
			}
		}
	}
}

// An answer hangs on nothing that was asked earlier: asked backwards all are the same.
func TestNothingIsKeptP2(t *testing.T) {
	texts := textsOf("ab.*>", 3)
	first := make([]answers, 0, len(texts)*len(texts))
	for _, f := range texts {
		for _, s := range texts {
			first = append(first, ask(f, s))
		}
	}
	for i := len(first) - 1; i >= 0; i-- {
		f, s := texts[i/len(texts)], texts[i%len(texts)]
		if a := ask(f, s); a != first[i] {
			t.Fatalf("%q, %q: first %+v, then %+v", f, s, first[i], a)
		}
	}
}
