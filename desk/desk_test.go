package desk

import (
	"slices"
	"strconv"
	"strings"
	"sync"
	"testing"
)

// wantRun has a line of the script ahead of each `->`, and its answer behind it; without a `->` the
// line is not to be answered.
func wantRun(t *testing.T, lines ...string) {
	t.Helper()
	var in, want strings.Builder
	for _, line := range lines {
		asked, answer, has := strings.Cut(line, "->")
		in.WriteString(strings.TrimSuffix(asked, " ") + "\n")
		if has {
			want.WriteString(strings.TrimPrefix(answer, " ") + "\n")
		}
	}
	wantText(t, in.String(), want.String())
}

func wantText(t *testing.T, in, want string) {
	t.Helper()
	got := Run(in)
	if got == want {
		return
	}
	gotLines, wantLines := strings.Split(got, "\n"), strings.Split(want, "\n")
	for i := range min(len(gotLines), len(wantLines)) {
		if gotLines[i] != wantLines[i] {
			t.Errorf("Run(%.300q): answer %d is %q, want %q", in, i+1, gotLines[i], wantLines[i])
			return
		}
	}
	t.Errorf("Run(%.300q): %.300q, want %.300q", in, got, want)
}

func TestLinesP35(t *testing.T) {
	for _, c := range []struct{ in, want string }{
		{"", ""},
		{"\n", ""},
		{"\n\n\n", ""},
		{"match a a", "yes\n"},
		{"match a a\n", "yes\n"},
		{"match a a\nmatch a b", "yes\nno\n"},
		{"\nmatch a a\n\nmatch a b\n\n", "yes\nno\n"},
		{"   \n match  a   a  \n ", "yes\n"},
		{"# match a a\nmatch a a\n", "yes\n"},
		{"  #match a a", ""},
		{"#\n##\n#x y\n", ""},
		{"match a #", "no\n"},
		{"match # #", "yes\n"},
		{"match#", "error 3\n"},
		{"x#", "error 3\n"},
		{"x\n#\nmatch a a\n", "error 3\nyes\n"},
	} {
		wantText(t, c.in, c.want)
	}
}

// The blank and the byte 10 alone part words and lines: all other bytes are a word's.
func TestOtherBytesP1P35(t *testing.T) {
	for b := range 256 {
		s := string([]byte{byte(b)})
		switch b {
		case 10, 32:
			continue
		case '#':
			wantText(t, s, "")
		default:
			wantText(t, s, "error 3\n")
		}
		wantText(t, "match a"+s+"a", "error 3\n")
		wantText(t, "match"+s+"a a", "error 3\n")
		wantText(t, "drop"+s+"\ndrop "+s, "error 3\nerror 4\n")
	}
	wantText(t, "stream 99 99 s a\r\npub a d\r\nnext s \xff\xfe", "error 3\nerror 10\nerror 4\n")
	wantRun(t, "stream 999 99 s a -> ok", "take s c a wait=1 -> ok", "pub a \xff\x00\tx\r -> s 1", "next s c -> 1 a \xff\x00\tx\r 1 1 0")
}

func TestManyLinesP35(t *testing.T) {
	const tooLarge = "error 2\n"
	wantText(t, strings.Repeat("match a a\n", 200), strings.Repeat("yes\n", 200))
	wantText(t, strings.Repeat("match a a\n", 201), tooLarge)
	wantText(t, strings.Repeat("match a a\n", 199)+"match a b", strings.Repeat("yes\n", 199)+"no\n")
	wantText(t, strings.Repeat("match a a\n", 200)+"match a b", tooLarge)
	// Lines that are not answered are lines.
	wantText(t, strings.Repeat("\n", 200), "")
	wantText(t, strings.Repeat("\n", 201), tooLarge)
	wantText(t, strings.Repeat("\n", 200)+" ", tooLarge)
	wantText(t, strings.Repeat("#\n", 199)+"match a a", "yes\n")
	wantText(t, strings.Repeat("#\n", 200)+"match a a", tooLarge)
}

func TestManyBytesP35(t *testing.T) {
	const tooLarge = "error 2\n"
	front := "match a a\n"
	wantText(t, front+strings.Repeat(" ", 65536-len(front)), "yes\n")
	wantText(t, front+strings.Repeat(" ", 65537-len(front)), tooLarge)
	wantText(t, front+strings.Repeat("x", 65536-len(front)), "yes\nerror 3\n")
	wantText(t, front+"#"+strings.Repeat("x", 65536-len(front)), tooLarge)
	wantText(t, strings.Repeat("\n", 65536), tooLarge)
	wantText(t, strings.Repeat("x ", 32768), "error 3\n")
	wantText(t, strings.Repeat("x", 1<<20), tooLarge)
}

func TestMatchP35(t *testing.T) {
	wantRun(t,
		"match a.*.> a.b.c -> yes",
		"match a.*.> a.b -> no",
		"match a a -> yes",
		"match > a,b -> yes",
		"match a.> a.> -> error 3",
		"match a..b a -> error 3",
		"match a.b.c.d.e.f.g.h.i a -> error 2",
		"match a a.b.c.d.e.f.g.h.i -> error 2",
	)
}

func TestStreamP35(t *testing.T) {
	wantRun(t,
		"stream 100 50 s a.>,b per=2 window=5 -> ok",
		"stream 100 50 s c -> error 5",
		"stream 100 50 t a.b -> error 10",
		"stream 0 50 t c -> error 1",
		"stream 65537 50 t c -> error 1",
		"stream 100 0 t c -> error 1",
		"stream 100 4097 t c -> error 1",
		"stream 65536 4096   t  c   msgs=2  -> ok",
		"stream 1 1 u d msgs=201 -> error 1",
		"stream 1 1 u d window=2 per=5 -> error 3",
		"stream 1 1 U d -> error 3",
		"stream 1 1 u a1,a2,a3,a4,a5 -> error 2",
		"stream 1 1 u -> error 3",
		"stream 1 1 -> error 3",
		"stream 1 -> error 3",
		"stream -> error 3",
		"stream u d 1 1 -> error 3",
		"stream 1 u d -> error 3",
		"stream 1 1 u d -> ok",
		"stream 1 1 v e -> ok",
		"stream 1 1 w f -> error 8",
		"drop v -> ok",
		"stream 1 1 w f -> ok",
		"pub a.x 1 -> s 1",
		"pub b 1 -> s 2",
		"pub c 1 -> t 1",
		"pub d 1 -> error 8",
		"pub e 1 -> error 10",
		"pub f 1 -> error 8",
	)
	// Words as they stand, with one blank between: 1024 bytes of them are a plan's text.
	front := "s " + strings.Repeat("a", 16) + " per=2 "
	wantText(t, "stream 9 9 "+front+strings.Repeat("x", 1024-len(front)), "error 3\n")
	wantText(t, "stream 9 9 "+front+strings.Repeat("x", 1025-len(front)), "error 2\n")
}

func TestDropP35(t *testing.T) {
	wantRun(t,
		"drop s -> error 4",
		"stream 100 50 s a -> ok",
		"take s c a wait=1 -> ok",
		"drop -> error 3",
		"drop s s -> error 3",
		"drop S -> error 4",
		"drop s -> ok",
		"drop s -> error 4",
		"all s -> error 4",
		"stream 100 50 s a -> ok",
		"info s c -> error 4",
	)
}

func TestTakeP35(t *testing.T) {
	wantRun(t,
		"take s c a wait=1 -> error 4",
		"take s c a -> error 1",
		"take s c -> error 3",
		"take s -> error 3",
		"take -> error 3",
		"stream 1000 500 s a,b keep=2 -> ok",
		"take s  c a   wait=3   most=2   push -> ok",
		"take s c b wait=1 -> error 5",
		"take s d b from=2 wait=1 -> error 1",
		"take s d * wait=1 -> error 10",
		"take s C b wait=1 -> error 3",
		"take s d b.. wait=1 -> error 3",
		"take s d b wait=0 -> error 3",
		"take s d b push wait=1 -> error 3",
		"take s "+strings.Repeat("d", 1025)+" -> error 2",
		"take s "+strings.Repeat("d", 1024)+" -> error 3",
		"pub a x -> s 1",
		"serve s c -> 1",
		"tick 2 -> ok",
		"serve s c -> none",
		"tick 1 -> ok",
		"serve s c -> 1",
		"info s c -> 0 1 2 1",
	)
	six := []string{"stream 1000 500 s a -> ok"}
	for i := range 6 {
		six = append(six, "take s c"+strconv.Itoa(i)+" > ack=none -> ok")
	}
	wantRun(t, append(six, "take s d > ack=none -> error 8")...)
}

func TestLeaveP35(t *testing.T) {
	wantRun(t,
		"leave s c -> error 4",
		"stream 1000 500 s a keep=1 -> ok",
		"leave s c -> error 4",
		"take s c a wait=1 -> ok",
		"pub a x -> s 1",
		"all s -> 1:a",
		"leave s -> error 3",
		"leave s c c -> error 3",
		"leave c s -> error 4",
		"leave s c -> ok",
		"leave s c -> error 4",
		"all s -> none",
	)
}

func TestPubP35(t *testing.T) {
	wantRun(t,
		"stream 3000 500 s a.>,b per=3 window=5 -> ok",
		"stream 3000 500 other-1 c -> ok",
		"pub a.x d -> s 1",
		"pub a.x d -> s 2",
		"pub c d -> other-1 1",
		"pub b d id=i -> s 3",
		"pub b e id=i -> s 3 again",
		"pub a.x d id=j head=h expect=3 roll=1 -> s 4",
		"pub a.x d id=j head=h expect=3 roll=1 -> s 4 again",
		"all s -> 3:b 4:a.x",
		"sums s -> 2 7 3 4",
		"pub a.x d expect=3 -> error 9",
		"pub a.x d expect=0 -> error 9",
		"pub a.x d expect=4 roll=2 -> s 5",
		"all s -> 5:a.x",
		"pub a.x d roll=0 -> s 6",
		"all s -> 5:a.x 6:a.x",
		"pub a.x d roll=3 -> error 1",
		"pub a d -> error 10",
		"pub a.* d -> error 3",
		"pub a.b.c.d.e.f.g.h.i d -> error 2",
		"pub b "+strings.Repeat("d", 257)+" -> error 2",
		"pub b "+strings.Repeat("d", 250)+" head=1234567 -> error 2",
		"pub b "+strings.Repeat("d", 250)+" head=123456 -> s 7",
		"pub b d id=12345678901234567 -> error 2",
		"pub b d id=1234567890123456 -> s 8",
		"tick 6 -> ok",
		"pub b d id=i -> s 9",
	)
}

// Each of the words that may be left out, in their order, and nothing else.
func TestPubWordsP35(t *testing.T) {
	words := []string{"id=i", "head=h", "expect=0", "roll=1"}
	for kept := range 16 {
		line := "pub a d"
		var left []string
		for i, word := range words {
			if kept&(1<<i) != 0 {
				line += " " + word
				left = append(left, word)
			}
		}
		wantRun(t, "stream 1000 500 s a window=5 -> ok", line+" -> s 1")
		// Once more each of them, at its end, and the first one behind the others: too many, or too late.
		for _, word := range left {
			wantRun(t, "stream 1000 500 s a window=5 -> ok", line+" "+word+" -> error 3", "all s -> none")
		}
		if len(left) > 1 {
			turned := append(slices.Clone(left[1:]), left[0])
			wantRun(t, "stream 1000 500 s a -> ok", "pub a d "+strings.Join(turned, " ")+" -> error 3", "all s -> none")
		}
	}
	wantRun(t,
		"stream 1000 500 s a window=5 -> ok",
		"pub -> error 3",
		"pub a -> error 3",
		"pub a d d -> error 3",
		"pub a d id -> error 3",
		"pub a d ID=i -> error 3",
		"pub a d xid=i -> error 3",
		"pub a d id= i -> error 3",
		"pub a d head -> error 3",
		"pub a d expect= -> error 3",
		"pub a d expect=-1 -> error 3",
		"pub a d expect=x -> error 3",
		"pub a d expect=00 -> error 3",
		"pub a d roll= -> error 3",
		"pub a d roll=01 -> error 3",
		"pub a d roll=1 x -> error 3",
		"pub a d nowait -> error 3",
		"all s -> none",
		// What stands where the data stands is data, whatever it looks like.
		"pub a id=i -> s 1",
		"pub a id=i -> s 2",
		"pub a roll=2 expect=2 -> s 3",
		"pub a d id=id=i head=head=h=h -> s 4",
		"pub a d id=id=i -> s 4 again",
		"pub a d id=head=h -> s 5",
		"pub a d id= -> s 6",
		"pub a d id= head= -> s 7",
		"sums s -> 7 33 1 7",
	)
}

func TestNextP35(t *testing.T) {
	wantRun(t,
		"next s c -> error 4",
		"stream 3000 500 s a.> -> ok",
		"next s c -> error 4",
		"take s c a.x.* wait=5 pending=2 -> ok",
		"pub a.x.y d head=h -> s 1",
		"pub a.z e -> s 2",
		"pub a.x.z data=x -> s 3",
		"pub a.x.y g -> s 4",
		"next s -> error 3",
		"next s c 1 -> error 3",
		"next s c -> 1 a.x.y d 1 1 2",
		"tick 5 -> ok",
		"next s c -> 1 a.x.y d 2 2 2",
		"next s c -> 3 a.x.z data=x 3 1 1",
		"next s c -> error 11",
		"ack s c 1 -> ok",
		"next s c -> 4 a.x.y g 4 1 0",
		"ack s c 3 -> ok",
		"next s c -> error 4",
	)
}

func TestAnswersP35(t *testing.T) {
	front := []string{
		"stream 3000 500 s a -> ok",
		"take s c a wait=5 -> ok",
		"pub a d -> s 1",
		"pub a d -> s 2",
		"next s c -> 1 a d 1 1 1",
		"next s c -> 2 a d 2 1 0",
		"tick 4 -> ok",
	}
	with := func(lines ...string) {
		t.Helper()
		wantRun(t, append(slices.Clone(front), lines...)...)
	}
	with("ack s c 2 -> ok", "info s c -> 0 2 2 1", "tick 1 -> ok", "next s c -> 1 a d 3 2 0", "next s c -> error 4")
	with("term s c 1 -> ok", "info s c -> 1 2 2 1", "tick 1 -> ok", "next s c -> 2 a d 3 2 0", "next s c -> error 4")
	with("work s c 1 -> ok", "info s c -> 0 2 2 2", "tick 1 -> ok", "next s c -> 2 a d 3 2 0", "next s c -> error 4",
		"tick 4 -> ok", "next s c -> 1 a d 4 2 0")
	with("nak s c 2 0 -> ok", "next s c -> 2 a d 3 2 0", "next s c -> error 4")
	with("nak s c 2 3 -> ok", "tick 1 -> ok", "next s c -> 1 a d 3 2 0", "next s c -> error 4",
		"tick 2 -> ok", "next s c -> 2 a d 4 2 0")
	with("nak s c 2 100000 -> ok", "nak s c 2 100001 -> error 1")
	for _, word := range []string{"ack", "work", "term"} {
		with(word+" s c 3 -> error 4", word+" s c 0 -> error 4", word+" s d 1 -> error 4", word+" t c 1 -> error 4",
			word+" s c 1 -> ok", word+" s c 999999999 -> error 4", word+" s c 1000000000 -> error 3",
			word+" s c -> error 3", word+" s c 1 0 -> error 3", word+" s c x -> error 3", word+" s 1 c -> error 3",
			word+" -> error 3")
	}
	with("nak s c 3 1 -> error 4", "nak s d 1 1 -> error 4", "nak s c 1 -> error 3", "nak s c 1 1 1 -> error 3",
		"nak s c 1 x -> error 3", "nak s c x 1 -> error 3", "nak -> error 3")
	// Of acks of all ahead an ack has them done, too; a term has not.
	front = append(slices.Clone(front[:1]), append([]string{"take s c a ack=all wait=5 -> ok"}, front[2:]...)...)
	with("ack s c 2 -> ok", "info s c -> 2 2 2 0")
	with("term s c 2 -> ok", "info s c -> 0 2 2 1")
	with("work s c 2 -> ok", "nak s c 2 1 -> ok", "info s c -> 0 2 2 2")
}

func TestPullP35(t *testing.T) {
	wantRun(t,
		"pull s c 1 0 -> error 4",
		"stream 3000 500 s a -> ok",
		"take s c a wait=50 -> ok",
		"take s p a wait=50 push -> ok",
		"pull s d 1 0 -> error 4",
		"pull s p 1 0 -> error 11",
		"pull s c 0 0 -> error 1",
		"pull s c 51 0 -> error 1",
		"pull s c 50 999999999 nowait -> ok",
		"pull s c 1 1000000000 -> error 3",
		"pull s c 1 -> error 3",
		"pull s c 1 0 now -> error 3",
		"pull s c 1 0 nowait nowait -> error 3",
		"pull s c 1 0 x nowait -> error 3",
		"pull s c 1 0 nowaits -> error 3",
		"pull s c nowait 1 0 -> error 3",
		"pull s c 1 x -> error 3",
		"pull s c x 0 -> error 3",
		"pull -> error 3",
		"serve s c -> none",
		// The one with nowait is gone: the ones that were refused never waited.
		"pub a d -> s 1",
		"serve s c -> none",
		"pull s c 2 0 -> ok",
		"serve s c -> 1",
		"pub a d -> s 2",
		"pub a d -> s 3",
		"serve s c -> 2",
		"pull s c 2 5 -> ok",
		"tick 5 -> ok",
		"serve s c -> none",
		"pull s c 2 6 -> ok",
		"serve s c -> 3",
		"pub a d -> s 4",
		"serve s c -> 4",
	)
	full := []string{"stream 3000 500 s a -> ok", "take s c a wait=50 -> ok"}
	for range 10 {
		full = append(full, "pull s c 1 0 -> ok")
	}
	wantRun(t, append(full, "pull s c 1 0 -> error 8", "pull s c 1 0 nowait -> error 8")...)
}

func TestServeP35(t *testing.T) {
	wantRun(t,
		"serve s c -> error 4",
		"stream 3000 500 s a keep=2 -> ok",
		"serve s c -> error 4",
		"take s c a wait=5 push -> ok",
		"serve s c -> none",
		"pub a d -> s 1",
		"pub a d -> s 2",
		"pub a d -> s 3",
		"serve s -> error 3",
		"serve s c 1 -> error 3",
		"serve s c -> 1 2 3",
		"serve s c -> none",
		"ack s c 2 -> ok",
		"all s -> 1:a 3:a",
		"tick 5 -> ok",
		"serve s c -> 1 3",
	)
}

func TestEraseCompactPurgeP35(t *testing.T) {
	wantRun(t,
		"erase s 1 -> error 4",
		"compact s -> error 4",
		"purge s > 1 -> error 4",
		"stream 3000 100 s a,b -> ok",
		"pub a d -> s 1",
		"pub b d -> s 2",
		"pub a d -> s 3",
		"pub a d -> s 4",
		"erase s 5 -> error 4",
		"erase s 0 -> error 1",
		"erase s -> error 3",
		"erase s 1 1 -> error 3",
		"erase s x -> error 3",
		"erase 1 s -> error 3",
		"erase s 3 -> ok",
		"erase s 3 -> error 4",
		"purge s a -> error 3",
		"purge s a 4 4 -> error 3",
		"purge s a x -> error 3",
		"purge s 4 a -> error 3",
		"purge s a 0 -> error 1",
		"purge s a..b 4 -> error 3",
		"purge s 1.2.3.4.5.6.7.8.9 4 -> error 2",
		"purge s a 4 -> 1",
		"all s -> 2:b 4:a",
		"purge s a 4 -> 0",
		"purge s > 999999999 -> 2",
		"all s -> none",
		"sums s -> 0 0 0 4",
		"compact s s -> error 3",
		"compact -> error 3",
		"compact s -> ok",
		"pub a d -> s 5",
	)
	// A full disk has room again behind Compact; what doesn't fit into one block can't be made less.
	wantRun(t,
		"stream 45 20 s a -> ok",
		"pub a d -> s 1",
		"pub a d -> s 2",
		"compact s -> error 8",
		"erase s 1 -> ok",
		"pub a d -> error 8",
		"all s -> 2:a",
	)
}

func TestTickCrashP35(t *testing.T) {
	wantRun(t,
		"tick 1 -> ok",
		"tick 100000 -> ok",
		"tick 100001 -> error 1",
		"tick 0 -> error 1",
		"tick -> error 3",
		"tick 1 1 -> error 3",
		"tick -1 -> error 3",
		"tick x -> error 3",
		"crash 0 -> ok",
		"crash 999999999 -> ok",
		"crash 1000000000 -> error 3",
		"crash -> error 3",
		"crash 1 1 -> error 3",
		"crash -1 -> error 3",
		"crash x -> error 3",
		"stream 3000 500 s a age=10 window=50 -> ok",
		"pub a d id=i -> s 1",
		"tick 10 -> ok",
		"pub a d id=i -> s 1 again",
		"all s -> 1:a",
		"crash 5 -> ok",
		"pub a d id=i -> s 2",
		"tick 1 -> ok",
		"all s -> 2:a",
	)
}

func TestLooksP35(t *testing.T) {
	wantRun(t,
		"all s -> error 4",
		"sums s -> error 4",
		"info s c -> error 4",
		"stream 3000 500 s a.*,b -> ok",
		"all s -> none",
		"sums s -> 0 0 0 0",
		"info s c -> error 4",
		"take s c > wait=5 -> ok",
		"info s c -> 0 0 0 0",
		"pub a.x d head=hh -> s 1",
		"pub b d -> s 2",
		"pub a.y d -> s 3",
		"erase s 1 -> ok",
		"all s -> 2:b 3:a.y",
		"sums s -> 2 6 2 3",
		"next s c -> 2 b d 1 1 1",
		"next s c -> 3 a.y d 2 1 0",
		"ack s c 2 -> ok",
		"info s c -> 2 3 2 1",
		"all -> error 3",
		"all s s -> error 3",
		"sums -> error 3",
		"sums s s -> error 3",
		"info -> error 3",
		"info s -> error 3",
		"info s c c -> error 3",
	)
}

func TestFirstWordsP35(t *testing.T) {
	for _, word := range []string{
		"match", "stream", "drop", "take", "leave", "pub", "next", "ack", "work", "term", "nak", "pull",
		"serve", "erase", "compact", "purge", "tick", "crash", "all", "sums", "info",
	} {
		wantRun(t, word+" -> error 3")
		for _, other := range []string{word + "s", word[1:], word[:len(word)-1], strings.ToUpper(word), word + ",", "x" + word} {
			for _, rest := range []string{"", " s", " s c", " s c 1", " 1"} {
				wantRun(t, other+rest+" -> error 3")
			}
		}
	}
}

// With the number 0 a wait, a bound and a crash mean something, so that a 0 alone is a number; else
// numbers are those of a plan's text.
func TestNumbersP35(t *testing.T) {
	for _, c := range []struct {
		word string
		is   bool
	}{
		{"0", true}, {"1", true}, {"9", true}, {"10", true}, {"123456789", true}, {"999999999", true},
		{"1000000000", false}, {"9999999999", false}, {"00", false}, {"01", false}, {"0000000001", false},
		{"-0", false}, {"-1", false}, {"+1", false}, {"+0", false}, {"1.0", false}, {"1e1", false}, {"0x1", false},
		{"1_0", false}, {"x", false}, {"1x", false}, {"x1", false}, {"1\t", false}, {"\xb2", false}, {"٣", false},
		{"18446744073709551616", false}, {strings.Repeat("1", 5000), false},
	} {
		answer := "error 3"
		if c.is {
			answer = "ok"
		}
		wantRun(t, "crash "+c.word+" -> "+answer)
		if n, is := readNumber(c.word); is != c.is || is && strconv.Itoa(n) != c.word {
			t.Errorf("readNumber(%.20q): %d, %t", c.word, n, is)
		}
	}
	for _, c := range []struct{ line, answer string }{
		{"stream 0N 9 u z", "ok"}, {"stream 9 0N u z", "ok"}, {"ack s c 0N", "error 4"}, {"work s c 0N", "error 4"},
		{"term s c 0N", "error 4"}, {"nak s c 0N 1", "error 4"}, {"nak s c 1 0N", "error 4"}, {"pull s c 0N 1", "ok"},
		{"pull s c 1 0N", "ok"}, {"erase s 0N", "error 4"}, {"purge s > 0N", "0"}, {"tick 0N", "ok"},
		{"pub a d expect=0N", "error 9"}, {"pub a d roll=0N", "s 1"},
	} {
		front := []string{"stream 3000 500 s a -> ok", "take s c a wait=5 -> ok"}
		right, wrong := strings.Replace(c.line, "0N", "1", 1), strings.Replace(c.line, "0N", "01", 1)
		wantRun(t, append(front, wrong+" -> error 3", right+" -> "+c.answer)...)
	}
}

// What can't be read is told ahead of what isn't there, and changes nothing.
func TestSyntaxFirstP35(t *testing.T) {
	wantRun(t,
		"stream 3000 500 s a -> ok",
		"take s c a wait=5 -> ok",
		"pub a d -> s 1",
		"next s c -> 1 a d 1 1 0",
		"ack none c x -> error 3",
		"pull none c 99 x -> error 3",
		"pull none c 99 0 x -> error 3",
		"pub none..x d roll=x -> error 3",
		"drop s x -> error 3",
		"leave s c x -> error 3",
		"purge s > 9 x -> error 3",
		"erase s 1 x -> error 3",
		"tick 100 x -> error 3",
		"term s c 1 x -> error 3",
		"next s c -> error 4",
		"info s c -> 0 1 1 1",
		"all s -> 1:a",
	)
}

// Each Run has a server of its own, whatever other ones are asked at the same time.
func TestRunsShareNothingP2P35(t *testing.T) {
	in := "tick 5\nstream 3000 500 s a\npub a d id=i\ntake s c a wait=5 push\nserve s c\nsums s\n"
	want := "ok\nok\ns 1\nok\n1\n1 2 1 1\n"
	var all sync.WaitGroup
	for range 8 {
		all.Go(func() {
			for range 20 {
				if got := Run(in); got != want {
					t.Errorf("Run: %q, want %q", got, want)
				}
			}
		})
	}
	all.Wait()
}

// Wherever the disks stop, and however much they keep then, all answers are what they were.
func TestCrashChangesNothingP35(t *testing.T) {
	lines := strings.Split(strings.TrimSpace(`
stream 3000 200 work w.> keep=2
stream 3000 200 news n.>,m keep=1 msgs=3
take work a w.a.* wait=3 most=2
take news b > wait=2 backoff=1,2 push
pub w.a.x 1
pub w.a.y 2
pub n.x 3
pub n.y 4
next work a
serve news b
ack news b 1
tick 3
pull work a 3 0 nowait
serve work a
all work
all news
ack work a 2
pub m 5 roll=2
tick 3
serve work a
compact work
compact news
serve news b
all work
all news
sums work
sums news
info work a
info news b`), "\n")
	want := strings.Split(Run(strings.Join(lines, "\n")), "\n")
	for i := range lines {
		for _, keep := range []string{"0", "1", "7", "99", "999999999"} {
			with := slices.Insert(slices.Clone(lines), i, "crash "+keep)
			told := slices.Insert(slices.Clone(want), i, "ok")
			wantText(t, strings.Join(with, "\n"), strings.Join(told, "\n"))
		}
	}
}
