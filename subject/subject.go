// Package subject: subjects and filters: see doc/01-subject.md.
package subject

import (
	"strings"

	"rillbook/api"
)

const (
	between = "."
	anyOne  = "*"
	anyRest = ">"
)

// Subject: P3.
func Subject(s string) api.Errno {
	if hasTooManyTokens(s) {
		return api.ErrLarge
	}
	for _, token := range tokens(s) {
		if !isPlain(token) {
			return api.ErrSyntax
		}
	}
	return api.OK
}

// Filter: P3.
func Filter(s string) api.Errno {
	if hasTooManyTokens(s) {
		return api.ErrLarge
	}
	row := tokens(s)
	for i, token := range row {
		isLast := i == len(row)-1
		if token == anyOne || token == anyRest && isLast {
			continue
		}
		if !isPlain(token) {
			return api.ErrSyntax
		}
	}
	return api.OK
}

// Match: P4.
func Match(f, s string) (bool, api.Errno) {
	if e := Filter(f); e != api.OK {
		return false, e
	}
	if e := Subject(s); e != api.OK {
		return false, e
	}
	// As a filter a subject takes itself alone, so to take it is to cover it.
	return cover(tokens(f), tokens(s)), api.OK
}

// Overlap: P5.
func Overlap(f, g string) (bool, api.Errno) {
	if e := bothFilters(f, g); e != api.OK {
		return false, e
	}
	return meet(tokens(f), tokens(g)), api.OK
}

// Covers: P5.
func Covers(f, g string) (bool, api.Errno) {
	if e := bothFilters(f, g); e != api.OK {
		return false, e
	}
	return cover(tokens(f), tokens(g)), api.OK
}

func bothFilters(f, g string) api.Errno {
	if e := Filter(f); e != api.OK {
		return e
	}
	return Filter(g)
}

// hasTooManyTokens counts ahead of any splitting, so that a long text of dots costs no list.
func hasTooManyTokens(s string) bool {
	return strings.Count(s, between)+1 > api.MaxTokens
}

func tokens(s string) []string {
	return strings.Split(s, between)
}

func isPlain(token string) bool {
	if len(token) < 1 || len(token) > api.MaxToken {
		return false
	}
	for i := range len(token) {
		if !isTokenByte(token[i]) {
			return false
		}
	}
	return true
}

func isTokenByte(b byte) bool {
	return b >= 33 && b <= 126 && b != '.' && b != '*' && b != '>'
}

// meet needs no look at a `>` behind the shorter row: it takes one token at least, so rows of
// unequal length have none in common there.
func meet(f, g []string) bool {
	for i := range min(len(f), len(g)) {
		if f[i] == anyRest || g[i] == anyRest {
			return true
		}
		if f[i] != g[i] && f[i] != anyOne && g[i] != anyOne {
			return false
		}
	}
	return len(f) == len(g)
}

// cover asks for f's `>` first: that one covers g's `>`, too, which nothing else does.
func cover(f, g []string) bool {
	for i := range min(len(f), len(g)) {
		if f[i] == anyRest {
			return true
		}
		if g[i] == anyRest {
			return false
		}
		if f[i] != anyOne && f[i] != g[i] {
			return false
		}
	}
	return len(f) == len(g)
}
