package vault

import (
	"math"
	"math/rand"
	"slices"
	"strconv"
	"strings"
	"testing"
	"unsafe"

	"rillbook/api"
	"rillbook/record"
	"rillbook/store"
)

// Bytes of a note, of an erase and of a mark, if their numbers are below 128.
const (
	noteSize  = 13
	eraseSize = 11
	markSize  = 11
)

func note(seq int) api.Record {
	return api.Record{Kind: api.KMessage, Seq: seq, Subject: "a", Data: "d"}
}

func message(seq, time int, subject, header, data string) api.Record {
	return api.Record{Kind: api.KMessage, Seq: seq, Time: time, Subject: subject, Header: header, Data: data}
}

func eraseOf(seq int) api.Record { return api.Record{Kind: api.KErase, Seq: seq} }

func purgeOf(filter string, below int) api.Record {
	return api.Record{Kind: api.KPurge, Seq: below, Subject: filter}
}

func markOf(seq int) api.Record { return api.Record{Kind: api.KMark, Seq: seq} }

func newVault(t *testing.T, room, size int) *Vault {
	t.Helper()
	v, e := New(room, size)
	if v == nil || e != api.OK {
		t.Fatalf("New(%d, %d): %v, %d", room, size, v, e)
	}
	return v
}

func wantErr(t *testing.T, call string, e, want api.Errno) {
	t.Helper()
	if e != want {
		t.Errorf("%s: %d, want %d", call, e, want)
	}
}

// do does records that are taken.
func do(t *testing.T, v *Vault, rs ...api.Record) {
	t.Helper()
	for _, r := range rs {
		if e := v.Do(r); e != api.OK {
			t.Fatalf("Do(%+v): %d", r, e)
		}
	}
}

// encoded is the bytes of records, one behind the other.
func encoded(t *testing.T, rs ...api.Record) string {
	t.Helper()
	all := ""
	for _, r := range rs {
		s, e := record.Encode(r)
		if e != api.OK {
			t.Fatalf("Encode(%+v): %d", r, e)
		}
		all += s
	}
	return all
}

// applied is a store that no crash has met.
func applied(t *testing.T, rs ...api.Record) *store.Store {
	t.Helper()
	s := store.New()
	for _, r := range rs {
		if e := s.Apply(r); e != api.OK {
			t.Fatalf("Apply(%+v): %d", r, e)
		}
	}
	return s
}

// look is all that a store tells without being asked for anything.
type look struct {
	all      []api.Record
	subjects []api.Entry
	sums     api.Sums
}

func lookAt(s *store.Store) look {
	subjects, _ := s.Subjects(">")
	return look{s.All(), subjects, s.Sums()}
}

func (l look) same(m look) bool {
	return slices.Equal(l.all, m.all) && slices.Equal(l.subjects, m.subjects) && l.sums == m.sums
}

func wantLook(t *testing.T, call string, v *Vault, want look) {
	t.Helper()
	if is := lookAt(v.Store()); !is.same(want) {
		t.Errorf("%s: the store is %+v, want %+v", call, is, want)
	}
}

func wantStore(t *testing.T, call string, v *Vault, want *store.Store) {
	t.Helper()
	wantLook(t, call, v, lookAt(want))
}

func wantUsed(t *testing.T, v *Vault, want int) {
	t.Helper()
	if used := v.Used(); used != want {
		t.Errorf("Used: %d, want %d", used, want)
	}
}

// textsOf is what stands on a vault's disk, by the files' numbers.
func textsOf(v *Vault) []string {
	var texts []string
	for _, file := range v.disk.List() {
		text, _ := v.disk.Read(file)
		texts = append(texts, text)
	}
	return texts
}

func wantTexts(t *testing.T, call string, v *Vault, want ...string) {
	t.Helper()
	if texts := textsOf(v); !slices.Equal(texts, want) {
		t.Errorf("%s: the disk has %q, want %q", call, texts, want)
	}
}

// wantNothing wants that a call answers that error and changes nothing, nor what is behind a crash.
func wantNothing(t *testing.T, call string, v *Vault, want api.Errno, made func() api.Errno) {
	t.Helper()
	was, texts, files, used := lookAt(v.Store()), textsOf(v), v.disk.List(), v.Used()
	wantErr(t, call, made(), want)
	for range 2 {
		wantLook(t, call, v, was)
		wantTexts(t, call, v, texts...)
		wantUsed(t, v, used)
		if is := v.disk.List(); !slices.Equal(is, files) {
			t.Errorf("%s: the files are %v, want %v", call, is, files)
		}
		v.Crash(0)
	}
}

func wantRefused(t *testing.T, v *Vault, r api.Record, want api.Errno) {
	t.Helper()
	wantNothing(t, "Do", v, want, func() api.Errno { return v.Do(r) })
}

func TestNewP17(t *testing.T) {
	for _, room := range []int{1, 2, 65535, 65536} {
		for _, size := range []int{1, 2, 4095, 4096} {
			v := newVault(t, room, size)
			wantStore(t, "New", v, store.New())
			wantUsed(t, v, 0)
		}
	}
	wrongRooms := []int{math.MinInt, -1, 0, 65537, math.MaxInt}
	wrongSizes := []int{math.MinInt, -1, 0, 4097, math.MaxInt}
	for _, wrong := range wrongRooms {
		for _, size := range append(wrongSizes, 1, 30, 4096) {
			if v, e := New(wrong, size); v != nil || e != api.ErrArg {
				t.Errorf("New(%d, %d): %v, %d, want ErrArg", wrong, size, v, e)
			}
		}
	}
	for _, wrong := range wrongSizes {
		for _, room := range []int{1, 60, 65536} {
			if v, e := New(room, wrong); v != nil || e != api.ErrArg {
				t.Errorf("New(%d, %d): %v, %d, want ErrArg", room, wrong, v, e)
			}
		}
	}
}

// allKinds has records of each kind, also such as change nothing, and the greatest numbers.
func allKinds() []api.Record {
	token := strings.Repeat("t", api.MaxToken)
	longest := strings.Repeat(token+".", api.MaxTokens-1) + token
	return []api.Record{
		note(1),
		message(2, 7, "a.b", "h\x00\xff", "data"),
		message(5, 3, "a.c", "", ""),
		eraseOf(1),
		message(130, 200, "b", "", "x"),
		{Kind: api.KPurge, Seq: 3, Time: 9, Subject: "a.*"},
		purgeOf("none", api.MaxSeq),
		markOf(4),
		{Kind: api.KMark, Seq: 500, Time: api.MaxTime},
		message(501, api.MaxTime, longest, strings.Repeat("h", 100), strings.Repeat("\x00", 156)),
		message(502, 0, "a.b", "", "again"),
		message(api.MaxSeq, 1, "b", "", ""),
		eraseOf(api.MaxSeq),
	}
}

func TestDoP17(t *testing.T) {
	for _, size := range []int{1, 30, 200, 4096} {
		v := newVault(t, api.MaxRoom, size)
		all := allKinds()
		for i, r := range all {
			do(t, v, r)
			wantStore(t, "Do", v, applied(t, all[:i+1]...))
			wantUsed(t, v, len(encoded(t, all[:i+1]...)))
		}
	}
}

// The log has each record that was taken, in blocks of the size that was asked for.
func TestDoWritesTheLogP17(t *testing.T) {
	v := newVault(t, 1000, 2*noteSize)
	for seq := range 5 {
		do(t, v, note(seq+1))
	}
	do(t, v, eraseOf(2))
	wantTexts(t, "Do", v, encoded(t, note(1), note(2)), encoded(t, note(3), note(4)), encoded(t, note(5), eraseOf(2)))
	v = newVault(t, 1000, 2*noteSize-1)
	do(t, v, note(1), note(2))
	wantTexts(t, "Do", v, encoded(t, note(1)), encoded(t, note(2)))
}

// What was done is sure at once: a crash of the disk itself takes nothing of it.
func TestDoneIsSureP17(t *testing.T) {
	for _, size := range []int{1, 30, 4096} {
		v := newVault(t, api.MaxRoom, size)
		for _, r := range allKinds() {
			do(t, v, r)
			was := textsOf(v)
			v.disk.Crash(0)
			wantTexts(t, "the disk's Crash", v, was...)
		}
	}
}

func TestRefusedByTheStoreP17(t *testing.T) {
	for _, size := range []int{1, 30, 4096} {
		v := newVault(t, 1000, size)
		wantRefused(t, v, eraseOf(1), api.ErrNone)
		do(t, v, note(1), note(5), markOf(7), eraseOf(1))
		for _, x := range []struct {
			r    api.Record
			want api.Errno
		}{
			{note(1), api.ErrExpect},
			{note(6), api.ErrExpect},
			{note(7), api.ErrExpect},
			{eraseOf(1), api.ErrNone},
			{eraseOf(8), api.ErrNone},
			{api.Record{}, api.ErrArg},
			{api.Record{Kind: 5, Seq: 8}, api.ErrArg},
			{note(0), api.ErrArg},
			{note(-1), api.ErrArg},
			{note(math.MinInt), api.ErrArg},
			{note(api.MaxSeq + 1), api.ErrArg},
			{message(8, -1, "a", "", ""), api.ErrArg},
			{message(8, api.MaxTime+1, "a", "", ""), api.ErrArg},
			{message(8, 0, "", "", ""), api.ErrSyntax},
			{message(8, 0, "a.*", "", ""), api.ErrSyntax},
			{message(8, 0, "a", "h", strings.Repeat("d", 256)), api.ErrLarge},
			{purgeOf("a..b", 8), api.ErrSyntax},
			{api.Record{Kind: api.KPurge, Seq: 8, Subject: ">", Data: "d"}, api.ErrArg},
			{api.Record{Kind: api.KMark, Seq: 8, Subject: "a"}, api.ErrArg},
		} {
			wantRefused(t, v, x.r, x.want)
		}
		do(t, v, note(8), eraseOf(5))
		wantStore(t, "Do", v, applied(t, markOf(7), note(8)))
	}
}

// The store's bounds hold, too, and what is full outlives a crash.
func TestMostMessagesAndSubjectsP17P18(t *testing.T) {
	v := newVault(t, api.MaxRoom, api.MaxBlock)
	for i := range api.MaxMsgs {
		do(t, v, note(i+1))
	}
	wantRefused(t, v, note(201), api.ErrFull)
	wantErr(t, "Compact", v.Compact(), api.OK)
	wantRefused(t, v, note(201), api.ErrFull)
	do(t, v, purgeOf(">", 151))
	for i := range api.MaxSubjects - 1 {
		do(t, v, message(201+i, 0, "s."+strconv.Itoa(i), "", ""))
	}
	wantRefused(t, v, message(300, 0, "t", "", ""), api.ErrFull)
	do(t, v, message(300, 0, "s.98", "", ""))
}

// A record must fit into the room, to the byte; a smaller one may still do.
func TestNoRoomP17(t *testing.T) {
	for _, size := range []int{1, 30, 4096} {
		v := newVault(t, 3*noteSize-1, size)
		wantRefused(t, v, message(1, 0, "a", "", strings.Repeat("d", 40)), api.ErrFull)
		do(t, v, note(1), note(2))
		wantRefused(t, v, note(3), api.ErrFull)
		do(t, v, eraseOf(1))
		wantUsed(t, v, 2*noteSize+eraseSize)
		wantRefused(t, v, eraseOf(2), api.ErrFull)
		wantRefused(t, v, purgeOf(">", 9), api.ErrFull)
		wantRefused(t, v, markOf(9), api.ErrFull)
		wantStore(t, "Do", v, applied(t, note(2)))

		v = newVault(t, 3*noteSize, size)
		do(t, v, note(1), note(2), note(3))
		wantUsed(t, v, 3*noteSize)
	}
}

// A disk has 20 files, and so a log 20 blocks.
func TestMostBlocksP17P18(t *testing.T) {
	v := newVault(t, 1000, 2*noteSize-1)
	for i := range api.MaxFiles {
		do(t, v, note(i+1))
	}
	wantRefused(t, v, note(21), api.ErrFull)
	wantNothing(t, "Compact", v, api.ErrFull, v.Compact)
	v = newVault(t, 1000, markSize)
	for i := range api.MaxFiles - 1 {
		do(t, v, markOf(i+1))
	}
	wantErr(t, "Compact", v.Compact(), api.OK)
	wantTexts(t, "Compact", v, encoded(t, markOf(19)))
	for i := range api.MaxFiles - 1 {
		do(t, v, markOf(20+i))
	}
	wantNothing(t, "Compact", v, api.ErrFull, v.Compact)
}

// The store is asked ahead of the log.
func TestOrderOfErrorsP2P17(t *testing.T) {
	v := newVault(t, noteSize, 30)
	do(t, v, note(3))
	wantRefused(t, v, note(4), api.ErrFull)
	wantRefused(t, v, note(3), api.ErrExpect)
	wantRefused(t, v, eraseOf(1), api.ErrNone)
	wantRefused(t, v, eraseOf(0), api.ErrArg)
	wantRefused(t, v, message(3, 0, "a..b", "", ""), api.ErrSyntax)
}

// What is looked at is the vault's store, not another one.
func TestStoreP17(t *testing.T) {
	v := newVault(t, 1000, 30)
	s := v.Store()
	if s == nil || s != v.Store() {
		t.Fatalf("Store: %p, then %p", s, v.Store())
	}
	do(t, v, note(1), note(2), eraseOf(1))
	wantErr(t, "Compact", v.Compact(), api.OK)
	wantStore(t, "Store", v, s)
	if r, e := v.Store().Last("a"); r != note(2) || e != api.OK {
		t.Errorf("Last: %+v, %d", r, e)
	}
}

func TestUsedP17P18(t *testing.T) {
	v := newVault(t, 1000, 100)
	wantUsed(t, v, 0)
	do(t, v, note(1))
	wantUsed(t, v, noteSize)
	// Also what does nothing is written.
	do(t, v, markOf(1))
	wantUsed(t, v, noteSize+markSize)
	do(t, v, eraseOf(1))
	wantUsed(t, v, noteSize+markSize+eraseSize)
	v.Crash(0)
	wantUsed(t, v, noteSize+markSize+eraseSize)
	wantErr(t, "Compact", v.Compact(), api.OK)
	wantUsed(t, v, markSize)
}

func TestCrashChangesNothingP18(t *testing.T) {
	for _, size := range []int{1, 30, 200, 4096} {
		for _, keep := range []int{math.MinInt, -1, 0, 1, 5, 100, math.MaxInt} {
			v := newVault(t, api.MaxRoom, size)
			all := allKinds()
			for i := range len(all) + 1 {
				was := textsOf(v)
				for range 2 {
					v.Crash(keep)
					wantStore(t, "Crash", v, applied(t, all[:i]...))
					wantTexts(t, "Crash", v, was...)
				}
				if i < len(all) {
					do(t, v, all[i])
				}
			}
		}
	}
}

// The last number outlives a crash, also if its message is gone.
func TestVaultGoesOnBehindACrashP18(t *testing.T) {
	v := newVault(t, 1000, 2*noteSize)
	do(t, v, note(1), note(2), note(3), eraseOf(3))
	v.Crash(0)
	wantRefused(t, v, note(3), api.ErrExpect)
	wantRefused(t, v, eraseOf(3), api.ErrNone)
	do(t, v, note(4))
	// The blocks have the size that they had ahead of it.
	wantTexts(t, "Do", v, encoded(t, note(1), note(2)), encoded(t, note(3), eraseOf(3)), encoded(t, note(4)))
	do(t, v, eraseOf(1))
	v.Crash(0)
	wantStore(t, "Crash", v, applied(t, note(2), note(4)))
}

// A crash is the disk's: of a record that isn't sure keep bytes stay, which are none, unless it
// is there as a whole.
func TestCrashIsTheDisksP18(t *testing.T) {
	for keep := -1; keep <= noteSize+1; keep++ {
		v := newVault(t, 1000, 100)
		do(t, v, note(1))
		wantErr(t, "the log's Append", v.log.Append(note(2)), api.OK)
		v.Crash(keep)
		if keep < noteSize {
			wantStore(t, "Crash", v, applied(t, note(1)))
			wantTexts(t, "Crash", v, encoded(t, note(1)))
			do(t, v, note(2))
		}
		wantStore(t, "Crash", v, applied(t, note(1), note(2)))
		wantTexts(t, "Crash", v, encoded(t, note(1), note(2)))
	}
}

func TestCompactP18(t *testing.T) {
	v := newVault(t, api.MaxRoom, api.MaxBlock)
	do(t, v, allKinds()...)
	was := lookAt(v.Store())
	if len(was.all) != 4 {
		t.Fatalf("%d messages are there", len(was.all))
	}
	wantErr(t, "Compact", v.Compact(), api.OK)
	wantLook(t, "Compact", v, was)
	wantTexts(t, "Compact", v, encoded(t, append(was.all, markOf(api.MaxSeq))...))
	v.disk.Crash(0)
	wantTexts(t, "the disk's Crash", v, encoded(t, append(was.all, markOf(api.MaxSeq))...))
	v.Crash(0)
	wantLook(t, "Crash", v, was)
	// Once more it is the same.
	wantErr(t, "Compact", v.Compact(), api.OK)
	wantLook(t, "Compact", v, was)
	wantTexts(t, "Compact", v, encoded(t, append(was.all, markOf(api.MaxSeq))...))
}

// All blocks are one then, and the next record stands behind what was written.
func TestVaultGoesOnBehindCompactP18(t *testing.T) {
	v := newVault(t, 1000, 40)
	do(t, v, note(1), note(2), note(3), note(4), note(5), message(6, 8, "b", "h", ""))
	do(t, v, purgeOf("a", 5), eraseOf(6))
	wantErr(t, "Compact", v.Compact(), api.OK)
	wantTexts(t, "Compact", v, encoded(t, note(5), markOf(6)))
	wantRefused(t, v, note(6), api.ErrExpect)
	wantRefused(t, v, eraseOf(6), api.ErrNone)
	do(t, v, note(7), note(8))
	wantTexts(t, "Do", v, encoded(t, note(5), markOf(6), note(7)), encoded(t, note(8)))
	v.Crash(0)
	wantStore(t, "Crash", v, applied(t, note(5), markOf(6), note(7), note(8)))
}

// Without a last number there is no mark, and nothing is written.
func TestCompactOfAnEmptyVaultP18(t *testing.T) {
	for _, size := range []int{1, 4096} {
		v := newVault(t, noteSize, size)
		for range 50 {
			wantErr(t, "Compact", v.Compact(), api.OK)
			wantUsed(t, v, 0)
			wantStore(t, "Compact", v, store.New())
			v.Crash(0)
			wantStore(t, "Crash", v, store.New())
		}
		do(t, v, note(1))
		v.Crash(0)
		wantStore(t, "Crash", v, applied(t, note(1)))
	}
	// Records that leave a store as it was at first leave nothing, too.
	v := newVault(t, 100, 100)
	do(t, v, purgeOf(">", 9))
	wantErr(t, "Compact", v.Compact(), api.OK)
	wantUsed(t, v, 0)
}

// The last number alone is one record, which may be greater than a block.
func TestCompactOfNoMessagesP18(t *testing.T) {
	for _, size := range []int{1, markSize, 4096} {
		v := newVault(t, 1000, size)
		do(t, v, note(1), note(9), purgeOf(">", api.MaxSeq))
		wantErr(t, "Compact", v.Compact(), api.OK)
		wantTexts(t, "Compact", v, encoded(t, markOf(9)))
		v.Crash(0)
		wantStore(t, "Crash", v, applied(t, markOf(9)))
		wantRefused(t, v, note(9), api.ErrExpect)
		do(t, v, note(10))
	}
}

func TestCompactToTheByteP18(t *testing.T) {
	whole := 2*noteSize + markSize
	for _, size := range []int{1, noteSize, whole - 1} {
		v := newVault(t, 1000, size)
		do(t, v, note(1), note(2))
		wantNothing(t, "Compact", v, api.ErrFull, v.Compact)
		do(t, v, note(3))
	}
	for _, size := range []int{whole, whole + 1, 4096} {
		v := newVault(t, 1000, size)
		do(t, v, note(1), note(2))
		wantErr(t, "Compact", v.Compact(), api.OK)
		wantUsed(t, v, whole)
	}
}

// The new block stands beside the old ones for a while, and needs room.
func TestCompactNeedsRoomP18(t *testing.T) {
	written, whole := 3*noteSize+2*eraseSize, noteSize+markSize
	for _, x := range []struct {
		room int
		want api.Errno
	}{
		{written, api.ErrFull},
		{written + whole - 1, api.ErrFull},
		{written + whole, api.OK},
	} {
		v := newVault(t, x.room, 50)
		do(t, v, note(1), note(2), note(3), eraseOf(1), eraseOf(3))
		if x.want != api.OK {
			wantNothing(t, "Compact", v, x.want, v.Compact)
			continue
		}
		wantErr(t, "Compact", v.Compact(), api.OK)
		wantTexts(t, "Compact", v, encoded(t, note(2), markOf(3)))
	}
}

// A Vault that New didn't make has no room, but answers.
func TestZeroVaultAnswersP1(t *testing.T) {
	calls := []func(v *Vault){
		func(v *Vault) { wantErr(t, "Do", v.Do(note(1)), api.ErrFull) },
		func(v *Vault) { wantErr(t, "Do", v.Do(api.Record{}), api.ErrArg) },
		func(v *Vault) { wantErr(t, "Compact", v.Compact(), api.OK) },
		func(v *Vault) { v.Crash(1) },
		func(v *Vault) { wantStore(t, "Store", v, store.New()) },
		func(v *Vault) { wantUsed(t, v, 0) },
	}
	for _, first := range calls {
		v := &Vault{}
		first(v)
		for _, call := range calls {
			call(v)
		}
	}
}

func place(s string) uintptr { return uintptr(unsafe.Pointer(unsafe.StringData(s))) }

// A text that can't be written to can still share memory with another one: its place tells.
func sharesMemory(a, b string) bool {
	return a != "" && b != "" && place(a) < place(b)+uintptr(len(b)) && place(b) < place(a)+uintptr(len(a))
}

func TestTextsAreNewMemoryP2(t *testing.T) {
	v := newVault(t, 1000, 400)
	given := message(1, 0, "a.b.c", strings.Repeat("h", 60), strings.Repeat("d", 80))
	do(t, v, given)
	texts := []string{given.Subject, given.Header, given.Data}
	for range 2 {
		r, _ := v.Store().Get(1)
		if r != given {
			t.Errorf("Get: %+v", r)
		}
		texts = append(texts, r.Subject, r.Header, r.Data)
		v.Crash(0)
	}
	for i, a := range texts {
		for _, b := range texts[:i] {
			if sharesMemory(a, b) {
				t.Errorf("%.20q and %.20q share memory", a, b)
			}
		}
	}
}

// plainVault is a vault told by the document's words: a store that never crashes, and the blocks
// as texts.
type plainVault struct {
	room, size int
	store      *store.Store
	blocks     []string
}

func (p *plainVault) used() int { return len(strings.Join(p.blocks, "")) }

func (p *plainVault) do(t *testing.T, r api.Record) api.Errno {
	t.Helper()
	if e := p.store.Try(r); e != api.OK {
		return e
	}
	s, n := encoded(t, r), len(p.blocks)
	if p.used()+len(s) > p.room {
		return api.ErrFull
	}
	if n > 0 && (p.blocks[n-1] == "" || len(p.blocks[n-1]+s) <= p.size) {
		p.blocks[n-1] += s
	} else if n == api.MaxFiles {
		return api.ErrFull
	} else {
		p.blocks = append(p.blocks, s)
	}
	return p.store.Apply(r)
}

func (p *plainVault) compact(t *testing.T) api.Errno {
	t.Helper()
	rs := p.store.All()
	if last := p.store.Sums().Last; last > 0 {
		rs = append(rs, markOf(last))
	}
	s := encoded(t, rs...)
	if len(rs) > 1 && len(s) > p.size || p.used()+len(s) > p.room || len(p.blocks) == api.MaxFiles {
		return api.ErrFull
	}
	p.blocks = []string{s}
	return api.OK
}

func someRecord(source *rand.Rand, last int) api.Record {
	subjects := []string{"a", "a.b", "a.c", "b", "b.c.d", "a..b"}
	filters := []string{">", "a.*", "*", "b.>", "a.>.b"}
	about := max(last-20, -2) + source.Intn(25)
	switch source.Intn(20) {
	case 0, 1, 2, 3, 4:
		return eraseOf(about)
	case 5:
		return purgeOf(filters[source.Intn(len(filters))], about)
	case 6:
		return markOf(about)
	case 7:
		return note(about)
	}
	data := strings.Repeat("d", source.Intn(30))
	return message(last+1+source.Intn(2), source.Intn(300), subjects[source.Intn(len(subjects))], data[:len(data)/3], data)
}

// step does anything with a vault, and the same with a plain one, and tells what was answered.
func step(t *testing.T, source *rand.Rand, v *Vault, p *plainVault) api.Errno {
	t.Helper()
	switch source.Intn(12) {
	case 0, 1:
		v.Crash(source.Intn(40) - 1)
		return api.OK
	case 2:
		e := v.Compact()
		wantErr(t, "Compact", e, p.compact(t))
		return e
	}
	r := someRecord(source, p.store.Sums().Last)
	e := v.Do(r)
	wantErr(t, "Do", e, p.do(t, r))
	return e
}

// Two vaults are used in turn, so that it is seen that neither changes the other.
func TestManyCallsP2P17P18(t *testing.T) {
	source := rand.New(rand.NewSource(8))
	answered := map[api.Errno]int{}
	for _, room := range []int{60, 300, 1000, 5000, 65536} {
		for _, size := range []int{1, 30, 200, 4096} {
			var vaults [2]*Vault
			var plain [2]*plainVault
			for i := range vaults {
				vaults[i] = newVault(t, room-i, size)
				plain[i] = &plainVault{room: room - i, size: size, store: store.New()}
			}
			for n := range 400 {
				i := source.Intn(2)
				answered[step(t, source, vaults[i], plain[i])]++
				for j, p := range plain {
					wantStore(t, "the store", vaults[j], p.store)
					wantTexts(t, "the disk", vaults[j], p.blocks...)
					wantUsed(t, vaults[j], p.used())
				}
				if t.Failed() {
					t.Fatalf("room %d, size %d, step %d", room, size, n)
				}
			}
		}
	}
	for _, e := range []api.Errno{api.OK, api.ErrArg, api.ErrSyntax, api.ErrNone, api.ErrFull, api.ErrExpect} {
		if answered[e] < 30 {
			t.Errorf("error %d was answered %d times only", e, answered[e])
		}
	}
}
