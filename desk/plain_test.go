package desk

import (
	"fmt"
	"math/rand"
	"regexp"
	"strings"
	"testing"

	"rillbook/api"
	"rillbook/server"
	"rillbook/subject"
)

// plainForms are the document's table, a pattern a row: W is a word, N a number; in square brackets
// stands what may be left out.
var plainForms = []string{
	"(match) W W", "(stream) N N( .*)?", "(drop) W", "(take) W( .*)?", "(leave) W W",
	"(pub) W W(?: id=([^ ]*))?(?: head=([^ ]*))?(?: expect=N)?(?: roll=N)?", "(next) W W",
	"(ack|work|term) W W N", "(nak) W W N N", "(pull) W W N N( nowait)?", "(serve) W W", "(erase) W N",
	"(compact) W", "(purge) W W N", "(tick) N", "(crash) N", "(all) W", "(sums) W", "(info) W W",
}

func plainPatterns() []*regexp.Regexp {
	var patterns []*regexp.Regexp
	in := strings.NewReplacer("W", "([^ ]+)", "N", "(0|[1-9][0-9]{0,8})")
	for _, form := range plainForms {
		patterns = append(patterns, regexp.MustCompile("^"+in.Replace(form)+"$"))
	}
	return patterns
}

// plainDesk does lines by the document's words: a line is held against each pattern, as a whole.
type plainDesk struct {
	*server.Server
	patterns []*regexp.Regexp
}

func (p plainDesk) run(text string) string {
	if len(text) > 65536 {
		return "error 2\n"
	}
	parts := strings.SplitAfter(text, "\n")
	if parts[len(parts)-1] == "" {
		parts = parts[:len(parts)-1]
	}
	if len(parts) > 200 {
		return "error 2\n"
	}
	told := ""
	for _, line := range parts {
		line = strings.Trim(strings.TrimSuffix(line, "\n"), " ")
		line = regexp.MustCompile(" +").ReplaceAllString(line, " ")
		if line != "" && line[0] != '#' {
			told += p.answer(line) + "\n"
		}
	}
	return told
}

func (p plainDesk) answer(line string) string {
	for _, pattern := range p.patterns {
		if f := pattern.FindStringSubmatch(line); f != nil {
			told, e := p.do(f[1:])
			if e != 0 {
				return fmt.Sprint("error ", int(e))
			}
			return told
		}
	}
	return "error 3"
}

func number(s string) (n int) {
	fmt.Sscan(s, &n)
	return n
}

func (p plainDesk) do(f []string) (string, api.Errno) {
	switch f[0] {
	case "stream":
		return "ok", p.Stream(strings.TrimPrefix(f[3], " "), number(f[1]), number(f[2]))
	case "drop":
		return "ok", p.Drop(f[1])
	case "take":
		return "ok", p.Take(f[1], strings.TrimPrefix(f[2], " "))
	case "leave":
		return "ok", p.Leave(f[1], f[2])
	case "ack":
		return "ok", p.Answer(f[1], f[2], number(f[3]), api.Answer{Sort: 1})
	case "nak":
		return "ok", p.Answer(f[1], f[2], number(f[3]), api.Answer{Sort: 2, N: number(f[4])})
	case "work":
		return "ok", p.Answer(f[1], f[2], number(f[3]), api.Answer{Sort: 3})
	case "term":
		return "ok", p.Answer(f[1], f[2], number(f[3]), api.Answer{Sort: 4})
	case "pull":
		return "ok", p.Pull(f[1], f[2], api.Pull{Batch: number(f[3]), Till: number(f[4]), NoWait: f[5] != ""})
	case "erase":
		return "ok", p.Erase(f[1], number(f[2]))
	case "compact":
		return "ok", p.Compact(f[1])
	case "tick":
		return "ok", p.Tick(number(f[1]))
	case "crash":
		p.Crash(number(f[1]))
		return "ok", 0
	}
	return p.look(f)
}

func (p plainDesk) look(f []string) (string, api.Errno) {
	switch f[0] {
	case "match":
		is, e := subject.Match(f[1], f[2])
		return map[bool]string{false: "no", true: "yes"}[is], e
	case "pub":
		x := api.Post{Subject: f[1], Data: f[2], Id: f[3], Header: f[4], Expect: -1, Roll: number(f[6])}
		if f[5] != "" {
			x.Expect = number(f[5])
		}
		name, seq, again, e := p.Publish(x)
		return fmt.Sprint(name, " ", seq, map[bool]string{true: " again"}[again]), e
	case "next":
		d, e := p.Next(f[1], f[2])
		return fmt.Sprintf("%d %s %s %d %d %d", d.Seq, d.Subject, d.Data, d.Count, d.Nth, d.Left), e
	case "serve":
		told, e := p.Serve(f[1], f[2])
		return list(told, func(d api.Delivery) string { return fmt.Sprint(d.Seq) }), e
	case "purge":
		n, e := p.Purge(f[1], f[2], number(f[3]))
		return fmt.Sprint(n), e
	case "all":
		told, e := p.All(f[1])
		return list(told, func(r api.Record) string { return fmt.Sprint(r.Seq, ":", r.Subject) }), e
	case "sums":
		n, e := p.Sums(f[1])
		return fmt.Sprint(n.Msgs, n.Bytes, n.First, n.Last), e
	}
	i, e := p.Info(f[1], f[2])
	return fmt.Sprint(i.Floor, i.Last, i.Count, i.Pending), e
}

func list[T any](of []T, tell func(T) string) string {
	told := ""
	for _, t := range of {
		told += " " + tell(t)
	}
	if told == "" {
		return "none"
	}
	return told[1:]
}

// scriptLines are what random scripts are made of: a `?` and what stands behind it is one of a few.
var scriptLines = []string{
	"match ?f ?s", "stream 2000 300 ?n ?f", "stream 2000 300 ?n ?f ?f", "stream 2000 300 ?n ?f,?s msgs=4 keep=?k",
	"stream 300 90 ?n ?s per=2 window=9", "drop ?q", "take ?n ?w ?f wait=4", "take ?n ?w ?f ack=all wait=2 push",
	"take ?n ?w ?s ack=none", "take ?n ?w ?f wait=3 most=2 pending=2", "leave ?q ?w", "pub ?s d?i", "pub ?s d?i",
	"pub ?s x", "pub ?s x id=?i", "pub ?s x id=?i head=?i expect=?i roll=?i", "pub ?s x roll=?k", "next ?n ?w",
	"next ?n ?w", "ack ?n ?w ?i", "work ?n ?w ?i", "term ?n ?w ?i", "nak ?n ?w ?i ?i", "pull ?n ?w ?i ?i",
	"pull ?n ?w ?i 0 nowait", "serve ?n ?w", "serve ?n ?w", "erase ?n ?i", "compact ?n", "purge ?n ?f ?i", "tick ?i",
	"crash ?i", "all ?n", "all ?n", "sums ?n", "info ?n ?w", "", "# all ?n", "?w",
}

func randomScript(r *rand.Rand) string {
	few := map[byte][]string{
		'f': {"a.>", "a.*", "b", "*", ">", "a.x", "a..b"},
		's': {"a.x", "a.y", "b", "c", "a.x.y", "a.*"},
		'n': {"s", "s", "s", "t"},
		'w': {"c", "c", "d"},
		'q': {"s", "t", "t", "u", "u", "u", "u", "u", "u", "u"},
		'r': {"100", "200", "900", "3000"},
		'i': {"0", "1", "2", "3", "4", "5", "6", "7", "8", "01"},
		'k': {"0", "1", "2"},
	}
	lines := []string{"stream ?r 90 s a.>,b,c keep=?k window=6", "take s c a.> wait=3", "take s d b wait=2 push"}
	for range r.Intn(198) {
		lines = append(lines, scriptLines[r.Intn(len(scriptLines))])
	}
	script := strings.Join(lines, "\n")
	for {
		front, rest, has := strings.Cut(script, "?")
		if !has {
			return spoil(r, script)
		}
		of := few[rest[0]]
		script = front + of[r.Intn(len(of))] + rest[1:]
	}
}

// spoil changes some bytes, so that lines are wrong here and there.
func spoil(r *rand.Rand, script string) string {
	bytes := []byte(script)
	for range r.Intn(12) {
		at := 80 + r.Intn(len(bytes)+80)
		if at < len(bytes) {
			bytes[at] = " \n#=x019\t\xff"[r.Intn(10)]
		}
	}
	return string(bytes)
}

func TestManyScriptsP35(t *testing.T) {
	r := rand.New(rand.NewSource(35))
	patterns := plainPatterns()
	seen := map[string]int{}
	for range 1000 {
		script := randomScript(r)
		want := plainDesk{server.New(), patterns}.run(script)
		wantText(t, script, want)
		if t.Failed() {
			return
		}
		for _, answer := range strings.Split(want, "\n") {
			seen[sortOf(answer)]++
		}
	}
	// Scripts that never get that far would show nothing.
	for _, sort := range []string{
		"ok", "yes", "no", "none", "again", "words", "error 1", "error 2", "error 3", "error 4", "error 5",
		"error 8", "error 9", "error 10", "error 11",
	} {
		if seen[sort] == 0 {
			t.Errorf("no script has an answer %q: %v", sort, seen)
		}
	}
}

func sortOf(answer string) string {
	switch {
	case strings.HasPrefix(answer, "error "), answer == "ok", answer == "yes", answer == "no", answer == "none":
		return answer
	case strings.HasSuffix(answer, " again"):
		return "again"
	}
	return "words"
}

func FuzzRunP1P35(f *testing.F) {
	r := rand.New(rand.NewSource(1))
	for range 20 {
		f.Add(randomScript(r))
	}
	patterns := plainPatterns()
	f.Fuzz(func(t *testing.T, script string) {
		wantText(t, script, plainDesk{server.New(), patterns}.run(script))
	})
}
