package blog

import (
	"encoding/binary"
	"hash/crc32"
	"math"
	"math/rand"
	"slices"
	"strconv"
	"strings"
	"testing"
	"unsafe"

	"rillbook/api"
	"rillbook/disk"
	"rillbook/record"
)

// noteSize is how many bytes a note has, if its number is below 128.
const noteSize = 13

func note(seq int) api.Record {
	return api.Record{Kind: api.KMessage, Seq: seq, Subject: "a", Data: "d"}
}

func notes(seqs ...int) []api.Record {
	var all []api.Record
	for _, seq := range seqs {
		all = append(all, note(seq))
	}
	return all
}

// sized is a message of that many bytes, from 12 to 130.
func sized(seq, size int) api.Record {
	return api.Record{Kind: api.KMessage, Seq: seq, Subject: "a", Data: strings.Repeat("d", size-12)}
}

// encoded is the bytes of records, one behind the other.
func encoded(t *testing.T, rs ...api.Record) string {
	t.Helper()
	all := ""
	for _, r := range rs {
		s, e := record.Encode(r)
		if e != api.OK {
			t.Fatalf("Encode(%+v): %d", r, e)
		}
		all += s
	}
	return all
}

func newDisk(t *testing.T, room int) *disk.Disk {
	t.Helper()
	d, e := disk.New(room)
	if e != api.OK {
		t.Fatalf("disk.New(%d): %d", room, e)
	}
	return d
}

func write(t *testing.T, d *disk.Disk, file int, s string) {
	t.Helper()
	if e := d.Append(file, s); e != api.OK {
		t.Fatalf("disk's Append(%d) of %d bytes: %d", file, len(s), e)
	}
}

// open opens a log, and holds what it tells against want.
func open(t *testing.T, d *disk.Disk, size int, want ...api.Record) *Log {
	t.Helper()
	l, rs, e := Open(d, size)
	if l == nil || e != api.OK {
		t.Fatalf("Open of size %d: %v, %d", size, l, e)
	}
	if !slices.Equal(rs, want) {
		t.Errorf("told: %+v, want %+v", rs, want)
	}
	return l
}

func newLog(t *testing.T, room, size int) (*disk.Disk, *Log) {
	t.Helper()
	d := newDisk(t, room)
	return d, open(t, d, size)
}

func wantErr(t *testing.T, call string, e, want api.Errno) {
	t.Helper()
	if e != want {
		t.Errorf("%s: %d, want %d", call, e, want)
	}
}

func add(t *testing.T, l *Log, rs ...api.Record) {
	t.Helper()
	for _, r := range rs {
		wantErr(t, "Append", l.Append(r), api.OK)
	}
}

func wantBlocks(t *testing.T, l *Log, want ...int) {
	t.Helper()
	if b := l.Blocks(); !slices.Equal(b, want) {
		t.Errorf("Blocks: %v, want %v", b, want)
	}
}

// files is what stands on a disk: the numbers of its files, and their texts.
type files struct {
	numbers []int
	texts   []string
}

func filesOf(d *disk.Disk) files {
	f := files{numbers: d.List()}
	for _, number := range f.numbers {
		text, _ := d.Read(number)
		f.texts = append(f.texts, text)
	}
	return f
}

func (f files) same(g files) bool {
	return slices.Equal(f.numbers, g.numbers) && slices.Equal(f.texts, g.texts)
}

func wantSame(t *testing.T, call string, d, other *disk.Disk) {
	t.Helper()
	if f, g := filesOf(d), filesOf(other); !f.same(g) {
		t.Errorf("%s: the disk is %v, want %v", call, f, g)
	}
}

func wantText(t *testing.T, d *disk.Disk, file int, want string) {
	t.Helper()
	if s, e := d.Read(file); s != want || e != api.OK {
		t.Errorf("block %d: %q, %d, want %q", file, s, e, want)
	}
}

func TestSizesP13(t *testing.T) {
	for _, size := range []int{1, 2, 4095, 4096} {
		_, l := newLog(t, 100, size)
		wantBlocks(t, l)
	}
	for _, size := range []int{math.MinInt, -4096, -1, 0, 4097, math.MaxInt} {
		d := newDisk(t, 1000)
		write(t, d, 2, encoded(t, note(1))+"wrong")
		write(t, d, 3, encoded(t, note(2)))
		was := filesOf(d)
		if l, rs, e := Open(d, size); l != nil || len(rs) != 0 || e != api.ErrArg {
			t.Errorf("Open of size %d: %v, %v, %d, want ErrArg", size, l, rs, e)
		}
		if !filesOf(d).same(was) {
			t.Errorf("Open of size %d wrote the disk", size)
		}
	}
}

// allKinds has a record of each kind, and the greatest and least ones.
func allKinds() []api.Record {
	token := strings.Repeat("t", api.MaxToken)
	longest := strings.Repeat(token+".", api.MaxTokens-1) + token
	return []api.Record{
		note(1),
		{Kind: api.KErase, Seq: 1},
		{Kind: api.KPurge, Seq: 5, Time: 3, Subject: "a.*.>"},
		{Kind: api.KMark, Seq: api.MaxSeq, Time: api.MaxTime},
		{Kind: api.KMessage, Seq: 300, Time: 200, Subject: "a.b", Header: "h\x00\xff", Data: ""},
		{Kind: api.KMessage, Seq: api.MaxSeq, Time: api.MaxTime, Subject: longest,
			Header: strings.Repeat("h", 100), Data: strings.Repeat("\x00", api.MaxData-100)},
		note(1),
	}
}

func TestOpenTellsWhatWasAppendedP13P14(t *testing.T) {
	for _, size := range []int{1, 13, 100, 500, 4096} {
		d, l := newLog(t, api.MaxRoom, size)
		add(t, l, allKinds()...)
		was := filesOf(d)
		// The size is of what is written, not of what is read.
		for _, other := range []int{size, 1, 4096} {
			again := open(t, d, other, allKinds()...)
			wantBlocks(t, again, was.numbers...)
			if !filesOf(d).same(was) {
				t.Errorf("size %d: Open wrote the disk", size)
			}
		}
	}
}

// Numbers may have gaps, blocks may be empty, and greater than size: all of them are read.
func TestOpenReadsAnyBlocksP13(t *testing.T) {
	d := newDisk(t, 1000)
	write(t, d, 1<<40, encoded(t, note(4)))
	write(t, d, 70, "")
	write(t, d, 7, encoded(t, note(2), note(3)))
	write(t, d, 6, "")
	write(t, d, 3, encoded(t, note(9), note(1)))
	write(t, d, 0, "")
	l := open(t, d, 1, notes(9, 1, 2, 3, 4)...)
	wantBlocks(t, l, 0, 3, 6, 7, 70, 1<<40)
}

// Where nothing is cut nothing is written: what wasn't sure still isn't.
func TestOpenMakesNothingSureP13(t *testing.T) {
	d := newDisk(t, 1000)
	write(t, d, 0, encoded(t, note(1)))
	d.Sync(0)
	write(t, d, 0, encoded(t, note(2)))
	write(t, d, 1, encoded(t, note(3)))
	open(t, d, 100, notes(1, 2, 3)...)
	d.Crash(0)
	wantText(t, d, 0, encoded(t, note(1)))
	wantText(t, d, 1, "")
}

// noRecords are bytes that no record begins with.
func noRecords(t *testing.T) []string {
	t.Helper()
	whole := encoded(t, note(5))
	var all []string
	for size := 1; size < len(whole); size++ {
		all = append(all, whole[:size])
	}
	for at := range len(whole) {
		wrong := []byte(whole)
		wrong[at] ^= 4
		all = append(all, string(wrong))
	}
	// The sum is the right one, but what it is of is no record: no body, a kind 9, a number 0.
	for _, body := range []string{"", "\x09\x01\x00\x00\x00\x00", "\x04\x00\x00\x00\x00\x00"} {
		sum := binary.LittleEndian.AppendUint32(nil, crc32.ChecksumIEEE([]byte(body)))
		all = append(all, string([]byte{byte(len(body))})+body+string(sum))
	}
	return append(all, "x", "\x00", "\xff", strings.Repeat("\xff", 40), strings.Repeat("\x00", 40))
}

// The bytes may stand at the front of a block, or behind records; in the first, a middle or the
// last block.
func TestOpenCutsP13(t *testing.T) {
	for _, wrong := range noRecords(t) {
		for _, front := range [][]api.Record{nil, notes(6), notes(6, 7)} {
			for bad := range 4 {
				d := newDisk(t, 1000)
				var want []api.Record
				for block := range bad {
					write(t, d, block*3, encoded(t, notes(block+1)...))
					want = append(want, note(block+1))
				}
				write(t, d, bad*3, encoded(t, front...)+wrong)
				for block := bad + 1; block < 4; block++ {
					write(t, d, block*3, encoded(t, notes(block+1)...))
				}
				l := open(t, d, 30, append(want, front...)...)
				wantBlocks(t, l, []int{0, 3, 6, 9}[:bad+1]...)
				wantText(t, d, bad*3, encoded(t, front...))
				open(t, d, 30, append(want, front...)...)
			}
		}
	}
}

// Behind wrong bytes nothing is read, neither of the same block nor of those behind it.
func TestOpenReadsNothingBehindP13(t *testing.T) {
	d := newDisk(t, 1000)
	write(t, d, 0, encoded(t, note(1))+"\x00"+encoded(t, note(2)))
	write(t, d, 1, "")
	write(t, d, 2, encoded(t, note(3))+"x")
	l := open(t, d, 100, note(1))
	wantBlocks(t, l, 0)
	add(t, l, note(4))
	open(t, d, 100, notes(1, 4)...)
}

// A record isn't read over the end of a block into the next one.
func TestRecordsEndWithTheirBlockP13(t *testing.T) {
	s := encoded(t, note(1))
	for size := 1; size < len(s); size++ {
		d := newDisk(t, 1000)
		write(t, d, 0, s[:size])
		write(t, d, 1, s[size:])
		l := open(t, d, 100)
		wantBlocks(t, l, 0)
		wantText(t, d, 0, "")
	}
}

func TestCutIsSureP13(t *testing.T) {
	d := newDisk(t, 1000)
	write(t, d, 0, encoded(t, note(1))+"wrong")
	write(t, d, 1, encoded(t, note(2)))
	open(t, d, 100, note(1))
	d.Crash(0)
	open(t, d, 100, note(1))
}

// What was cut away and removed is free again, and the log goes on behind the cut block.
func TestLogGoesOnBehindACutP13P14(t *testing.T) {
	d := newDisk(t, 3*noteSize)
	write(t, d, 4, encoded(t, note(1))+strings.Repeat("w", noteSize))
	write(t, d, 5, strings.Repeat("w", noteSize))
	l := open(t, d, 2*noteSize, note(1))
	add(t, l, note(2), note(3))
	wantBlocks(t, l, 4, 5)
	wantText(t, d, 4, encoded(t, notes(1, 2)...))
	wantText(t, d, 5, encoded(t, note(3)))
	wantErr(t, "Append", l.Append(note(4)), api.ErrFull)
}

func TestAppendP14(t *testing.T) {
	d, l := newLog(t, 1000, 2*noteSize)
	wantBlocks(t, l)
	for i, want := range [][]int{{0}, {0}, {0, 1}, {0, 1}, {0, 1, 2}} {
		add(t, l, note(i+1))
		wantBlocks(t, l, want...)
	}
	wantText(t, d, 0, encoded(t, notes(1, 2)...))
	wantText(t, d, 1, encoded(t, notes(3, 4)...))
	wantText(t, d, 2, encoded(t, note(5)))
}

// A block may have size bytes, and no more.
func TestBlocksToTheByteP14(t *testing.T) {
	for size := 12; size < 60; size++ {
		for first := 12; first < 40; first++ {
			for second := 12; second < 40; second++ {
				d, l := newLog(t, 1000, size)
				add(t, l, sized(1, first), sized(2, second))
				if d.Used() != first+second {
					t.Fatalf("%d bytes, want %d", d.Used(), first+second)
				}
				want := []int{0, 1}
				if first+second <= size {
					want = []int{0}
				}
				wantBlocks(t, l, want...)
			}
		}
	}
}

// A record that is greater than size stands in a block alone, also in an empty one that is there.
func TestGreatRecordsP14(t *testing.T) {
	d, l := newLog(t, 1000, 20)
	add(t, l, sized(1, 50), sized(2, 21), note(3), sized(4, 20), sized(5, 130))
	wantBlocks(t, l, 0, 1, 2, 3, 4)
	for block, r := range []api.Record{sized(1, 50), sized(2, 21), note(3), sized(4, 20), sized(5, 130)} {
		wantText(t, d, block, encoded(t, r))
	}

	d = newDisk(t, 1000)
	write(t, d, 6, "")
	l = open(t, d, 20)
	add(t, l, sized(1, 50))
	wantBlocks(t, l, 6)
	wantText(t, d, 6, encoded(t, sized(1, 50)))
	add(t, l, note(2))
	wantBlocks(t, l, 6, 7)
}

// Only the last block is written, also if there is room in one ahead of it.
func TestOnlyTheLastBlockIsWrittenP14(t *testing.T) {
	d := newDisk(t, 1000)
	write(t, d, 0, "")
	write(t, d, 5, encoded(t, note(1)))
	write(t, d, 8, encoded(t, notes(2, 3)...))
	l := open(t, d, 30, notes(1, 2, 3)...)
	add(t, l, note(4))
	wantBlocks(t, l, 0, 5, 8, 9)
	wantText(t, d, 0, "")
	wantText(t, d, 5, encoded(t, note(1)))
	wantText(t, d, 8, encoded(t, notes(2, 3)...))
	wantText(t, d, 9, encoded(t, note(4)))
}

func TestAppendMakesNothingSureP14(t *testing.T) {
	d, l := newLog(t, 1000, 100)
	add(t, l, notes(1, 2)...)
	l.Blocks()
	d.Crash(noteSize)
	l = open(t, d, 100, note(1))
	add(t, l, note(3))
	d.Crash(0)
	open(t, d, 100, note(1))
}

func TestBlockLeftBehindIsSureP14(t *testing.T) {
	d, l := newLog(t, 1000, 2*noteSize)
	add(t, l, notes(1, 2, 3)...)
	d.Crash(0)
	wantText(t, d, 0, encoded(t, notes(1, 2)...))
	wantText(t, d, 1, "")
	l = open(t, d, 2*noteSize, notes(1, 2)...)

	// The empty block that the crash left is the last one: it is written.
	add(t, l, notes(4, 5)...)
	wantBlocks(t, l, 0, 1)
	d.Crash(0)
	open(t, d, 2*noteSize, notes(1, 2)...)
}

func TestSyncP14(t *testing.T) {
	d, l := newLog(t, 1000, 3*noteSize)
	wantErr(t, "Sync", l.Sync(), api.OK)
	wantBlocks(t, l)
	add(t, l, note(1))
	wantErr(t, "Sync", l.Sync(), api.OK)
	add(t, l, note(2))
	d.Crash(0)
	l = open(t, d, 3*noteSize, note(1))
	add(t, l, notes(3, 4, 5)...)
	wantErr(t, "Sync", l.Sync(), api.OK)
	wantErr(t, "Sync", l.Sync(), api.OK)
	d.Crash(0)
	l = open(t, d, 3*noteSize, notes(1, 3, 4, 5)...)
	wantBlocks(t, l, 0, 1)
}

// Sync is of the last block: what others wrote ahead of it isn't sure by that.
func TestSyncOfTheLastBlockP14(t *testing.T) {
	d := newDisk(t, 1000)
	write(t, d, 2, encoded(t, note(1)))
	write(t, d, 4, encoded(t, note(2)))
	l := open(t, d, 100, notes(1, 2)...)
	wantErr(t, "Sync", l.Sync(), api.OK)
	d.Crash(0)
	wantText(t, d, 2, "")
	wantText(t, d, 4, encoded(t, note(2)))
}

func TestRewriteP14(t *testing.T) {
	d, l := newLog(t, 1000, 2*noteSize)
	add(t, l, notes(1, 2, 3, 4, 5)...)
	wantErr(t, "Rewrite", l.Rewrite(notes(5, 2)), api.OK)
	wantBlocks(t, l, 3)
	wantText(t, d, 3, encoded(t, notes(5, 2)...))
	d.Crash(0)
	l = open(t, d, 2*noteSize, notes(5, 2)...)

	add(t, l, note(6))
	wantBlocks(t, l, 3, 4)
	wantErr(t, "Rewrite", l.Rewrite(notes(6)), api.OK)
	wantBlocks(t, l, 5)
	add(t, l, note(7))
	wantBlocks(t, l, 5)
	d.Crash(0)
	open(t, d, 2*noteSize, note(6))
}

func TestRewriteOfNothingP14(t *testing.T) {
	for _, rs := range [][]api.Record{nil, {}} {
		d, l := newLog(t, 1000, 30)
		wantErr(t, "Rewrite", l.Rewrite(rs), api.OK)
		wantBlocks(t, l, 0)
		wantText(t, d, 0, "")
		add(t, l, notes(1, 2, 3)...)
		wantBlocks(t, l, 0, 1)
		wantErr(t, "Rewrite", l.Rewrite(rs), api.OK)
		wantBlocks(t, l, 2)
		wantText(t, d, 2, "")
		open(t, d, 30)
	}
}

func TestRewriteOfAnEmptyLogP14(t *testing.T) {
	d, l := newLog(t, 1000, 30)
	wantErr(t, "Rewrite", l.Rewrite(notes(1, 2)), api.OK)
	wantBlocks(t, l, 0)
	d.Crash(0)
	open(t, d, 30, notes(1, 2)...)
}

// More than one record may have size bytes together; one alone may have more.
func TestRewriteToTheByteP14(t *testing.T) {
	d, l := newLog(t, 1000, 40)
	add(t, l, note(9))
	wantErr(t, "Rewrite", l.Rewrite([]api.Record{sized(1, 20), sized(2, 21)}), api.ErrFull)
	wantErr(t, "Rewrite", l.Rewrite([]api.Record{sized(1, 14), sized(2, 14), note(3)}), api.ErrFull)
	wantErr(t, "Rewrite", l.Rewrite([]api.Record{sized(1, 130), note(3)}), api.ErrFull)
	wantBlocks(t, l, 0)
	wantText(t, d, 0, encoded(t, note(9)))
	wantErr(t, "Rewrite", l.Rewrite([]api.Record{sized(1, 20), sized(2, 20)}), api.OK)
	wantBlocks(t, l, 1)
	wantErr(t, "Rewrite", l.Rewrite([]api.Record{sized(1, 41)}), api.OK)
	wantErr(t, "Rewrite", l.Rewrite([]api.Record{sized(1, 130)}), api.OK)
	wantBlocks(t, l, 3)
	open(t, d, 40, sized(1, 130))
}

// The new block stands beside the old ones till it is sure: it needs room of its own.
func TestRewriteNeedsRoomP14(t *testing.T) {
	d, l := newLog(t, 3*noteSize, 100)
	add(t, l, notes(1, 2)...)
	wantErr(t, "Rewrite", l.Rewrite(notes(1, 2)), api.ErrFull)
	wantBlocks(t, l, 0)
	wantText(t, d, 0, encoded(t, notes(1, 2)...))
	wantErr(t, "Rewrite", l.Rewrite(notes(2)), api.OK)
	wantBlocks(t, l, 1)
	wantErr(t, "Rewrite", l.Rewrite(notes(1, 2)), api.OK)
	wantBlocks(t, l, 2)
}

// wrongRecords has one for each of Encode's errors.
var wrongRecords = []struct {
	r    api.Record
	want api.Errno
}{
	{api.Record{}, api.ErrArg},
	{api.Record{Kind: 5, Seq: 1}, api.ErrArg},
	{api.Record{Kind: api.KMark, Seq: 0}, api.ErrArg},
	{api.Record{Kind: api.KErase, Seq: 1, Data: "x"}, api.ErrArg},
	{api.Record{Kind: api.KMark, Seq: 1, Time: api.MaxTime + 1}, api.ErrArg},
	{api.Record{Kind: api.KMessage, Seq: 1, Subject: "a..b"}, api.ErrSyntax},
	{api.Record{Kind: api.KMessage, Seq: 1, Subject: "a.*"}, api.ErrSyntax},
	{api.Record{Kind: api.KMessage, Seq: 1, Subject: "a", Data: strings.Repeat("x", 257)}, api.ErrLarge},
}

// wrongCall is a call that answers an error, and which one.
type wrongCall struct {
	call func(l *Log) api.Errno
	want api.Errno
}

// wrongCalls are calls that answer an error on any log of size 30 whose last block is full, and
// whose disk answers full to a new one.
func wrongCalls(full api.Errno) []wrongCall {
	calls := []wrongCall{
		{func(l *Log) api.Errno { return l.Append(note(9)) }, full},
		{func(l *Log) api.Errno { return l.Rewrite(notes(9)) }, full},
		{func(l *Log) api.Errno { return l.Rewrite(notes(8, 9)) }, full},
		{func(l *Log) api.Errno { return l.Rewrite(notes(7, 8, 9)) }, api.ErrFull},
	}
	for _, x := range wrongRecords {
		rs := []api.Record{note(7), note(8), x.r, note(9)}
		calls = append(calls,
			wrongCall{func(l *Log) api.Errno { return l.Append(x.r) }, x.want},
			wrongCall{func(l *Log) api.Errno { return l.Rewrite(rs) }, x.want})
	}
	return calls
}

// fullLogs are logs of size 30 on disks that take no record in a new block, the last block being
// full and not all of it sure; and the disk's error.
func fullLogs(t *testing.T) map[string]func() (*disk.Disk, *Log, api.Errno) {
	t.Helper()
	return map[string]func() (*disk.Disk, *Log, api.Errno){
		"no bytes": func() (*disk.Disk, *Log, api.Errno) {
			d, l := newLog(t, 5*noteSize-1, 30)
			add(t, l, notes(1, 2, 3)...)
			l.Sync()
			add(t, l, note(4))
			return d, l, api.ErrFull
		},
		"no file": func() (*disk.Disk, *Log, api.Errno) {
			d := newDisk(t, 1000)
			for block := range api.MaxFiles - 1 {
				write(t, d, block, "")
			}
			write(t, d, 50, encoded(t, note(1)))
			d.Sync(50)
			l := open(t, d, 30, note(1))
			add(t, l, note(2))
			return d, l, api.ErrFull
		},
		"no number": func() (*disk.Disk, *Log, api.Errno) {
			d := newDisk(t, 1000)
			write(t, d, 1<<40, encoded(t, note(1)))
			d.Sync(1 << 40)
			l := open(t, d, 30, note(1))
			add(t, l, note(2))
			return d, l, api.ErrArg
		},
	}
}

// A call that answers an error changes nothing: neither a block, nor what is sure of one.
func TestErrorsChangeNothingP2P14(t *testing.T) {
	for name, begin := range fullLogs(t) {
		_, _, full := begin()
		for i, x := range wrongCalls(full) {
			for _, keep := range []int{0, 1, noteSize} {
				call := name + ", wrong call " + strconv.Itoa(i)
				d, l, _ := begin()
				untouched, _, _ := begin()
				wantErr(t, call, x.call(l), x.want)
				wantSame(t, call, d, untouched)
				wantBlocks(t, l, untouched.List()...)
				d.Crash(keep)
				untouched.Crash(keep)
				wantSame(t, call+", then a crash", d, untouched)
			}
		}
	}
}

// A record that fits into the last block needs neither a new file nor a new number.
func TestLastFileIsFilledP14(t *testing.T) {
	for _, last := range []int{19, 1 << 40} {
		d := newDisk(t, 1000)
		for block := range api.MaxFiles - 1 {
			write(t, d, block, "")
		}
		write(t, d, last, "")
		l := open(t, d, 2*noteSize)
		add(t, l, notes(1, 2)...)
		if e := l.Append(note(3)); e == api.OK {
			t.Errorf("a block behind %d", last)
		}
		open(t, d, 2*noteSize, notes(1, 2)...)
	}
}

// Where several errors apply the first one of the document's is told.
func TestOrderOfErrorsP14(t *testing.T) {
	for name, begin := range fullLogs(t) {
		_, l, full := begin()
		for _, x := range wrongRecords {
			wantErr(t, name, l.Append(x.r), x.want)
			for _, y := range wrongRecords {
				wantErr(t, name, l.Rewrite([]api.Record{x.r, y.r}), x.want)
				wantErr(t, name, l.Rewrite(append(notes(1, 2, 3, 4), x.r, note(5), y.r)), x.want)
			}
		}
		wantErr(t, name, l.Rewrite(notes(1, 2, 3)), api.ErrFull)
		wantErr(t, name, l.Rewrite(notes(1, 2)), full)
	}
}

// A log goes on behind an error as if there had been none.
func TestLogGoesOnBehindAnErrorP14(t *testing.T) {
	d, l := newLog(t, 4*noteSize, 2*noteSize)
	add(t, l, notes(1, 2, 3)...)
	wantErr(t, "Append", l.Append(sized(4, 40)), api.ErrFull)
	wantErr(t, "Append", l.Append(api.Record{}), api.ErrArg)
	wantErr(t, "Rewrite", l.Rewrite(notes(1, 2)), api.ErrFull)
	add(t, l, note(5))
	wantErr(t, "Append", l.Append(note(6)), api.ErrFull)
	wantBlocks(t, l, 0, 1)
	open(t, d, 2*noteSize, notes(1, 2, 3, 5)...)
}

// What stands on the disk is the log, whoever wrote it: nothing of it is known from earlier calls.
func TestBlocksAreTheDisksP13P14(t *testing.T) {
	d, l := newLog(t, 1000, 2*noteSize)
	add(t, l, notes(1, 2, 3)...)
	other := open(t, d, 4*noteSize, notes(1, 2, 3)...)
	add(t, other, notes(4, 5)...)
	wantBlocks(t, l, 0, 1)
	add(t, l, note(6))
	wantBlocks(t, l, 0, 1, 2)
	wantBlocks(t, other, 0, 1, 2)
	d.Crash(0)
	add(t, l, note(7))
	wantBlocks(t, l, 0, 1, 2)
	open(t, d, 30, notes(1, 2, 3, 4, 5, 7)...)
}

// A Log that Open didn't make has a disk without room, but answers.
func TestAnyLogIsAnsweredP1(t *testing.T) {
	var l Log
	wantBlocks(t, &l)
	wantErr(t, "Sync", l.Sync(), api.OK)
	wantErr(t, "Append", l.Append(note(1)), api.ErrFull)
	wantErr(t, "Append", l.Append(api.Record{}), api.ErrArg)
	wantErr(t, "Rewrite", l.Rewrite(notes(1)), api.ErrFull)
	wantErr(t, "Rewrite", l.Rewrite(notes(1, 2)), api.ErrFull)
	wantErr(t, "Rewrite", new(Log).Rewrite(notes(1)), api.ErrFull)
	wantErr(t, "Sync", new(Log).Sync(), api.OK)
	wantErr(t, "Append", new(Log).Append(note(1)), api.ErrFull)

	made := open(t, &disk.Disk{}, 30)
	wantErr(t, "Append", made.Append(note(1)), api.ErrFull)
	wantBlocks(t, made)
}

func TestArgumentsStayP2(t *testing.T) {
	_, l := newLog(t, 1000, 100)
	room := notes(1, 2, 3, 4)
	wantErr(t, "Rewrite", l.Rewrite(room[:2]), api.OK)
	if !slices.Equal(room, notes(1, 2, 3, 4)) {
		t.Errorf("rs are %+v", room)
	}
}

func place(s string) uintptr { return uintptr(unsafe.Pointer(unsafe.StringData(s))) }

// A text that can't be written to can still share memory with another one: its place tells.
func sharesMemory(a, b string) bool {
	return a != "" && b != "" && place(a) < place(b)+uintptr(len(b)) && place(b) < place(a)+uintptr(len(a))
}

func TestAnswersAreNewMemoryP2(t *testing.T) {
	d, l := newLog(t, 1000, 200)
	given := []api.Record{sized(1, 100), sized(2, 90), sized(3, 80)}
	add(t, l, given...)
	_, first, _ := Open(d, 200)
	_, second, _ := Open(d, 200)
	var texts []string
	for _, r := range slices.Concat(given, first, second) {
		texts = append(texts, r.Data)
	}
	for i, a := range texts {
		for _, b := range texts[:i] {
			if sharesMemory(a, b) {
				t.Errorf("%.20q and %.20q share memory", a, b)
			}
		}
	}
	clear(first[:cap(first)])
	if !slices.Equal(second, given) {
		t.Errorf("lists share memory: %+v", second)
	}
	blocks := l.Blocks()
	clear(blocks[:cap(blocks)])
	wantBlocks(t, l, 0, 1)
	open(t, d, 200, given...)
}

// block is one as the document's words have it: a sure front, and what is behind it.
type block struct {
	number      int
	sure, loose string
}

// plainLog is a log and its disk told by the document's words, in a list: what a Log is held
// against.
type plainLog struct {
	room, size int
	blocks     []block
}

func (p *plainLog) used() int {
	used := 0
	for _, b := range p.blocks {
		used += len(b.sure) + len(b.loose)
	}
	return used
}

func (p *plainLog) put(number int, s string) api.Errno {
	n := len(p.blocks)
	if p.used()+len(s) > p.room {
		return api.ErrFull
	}
	if n == 0 || p.blocks[n-1].number != number {
		if n == api.MaxFiles {
			return api.ErrFull
		}
		p.blocks = append(p.blocks, block{number: number})
		n++
	}
	p.blocks[n-1].loose += s
	return api.OK
}

func (p *plainLog) append(s string) api.Errno {
	n := len(p.blocks)
	if n == 0 {
		return p.put(0, s)
	}
	last := p.blocks[n-1]
	has := len(last.sure + last.loose)
	if has == 0 || has+len(s) <= p.size {
		return p.put(last.number, s)
	}
	e := p.put(last.number+1, s)
	if e == api.OK {
		p.blocks[n-1] = block{last.number, last.sure + last.loose, ""}
	}
	return e
}

func (p *plainLog) sync() {
	if n := len(p.blocks); n > 0 {
		last := p.blocks[n-1]
		p.blocks[n-1] = block{last.number, last.sure + last.loose, ""}
	}
}

func (p *plainLog) rewrite(rows []string) api.Errno {
	s := strings.Join(rows, "")
	if len(rows) > 1 && len(s) > p.size {
		return api.ErrFull
	}
	next := 0
	if n := len(p.blocks); n > 0 {
		next = p.blocks[n-1].number + 1
	}
	e := p.put(next, s)
	if e == api.OK {
		p.blocks = []block{{next, s, ""}}
	}
	return e
}

func (p *plainLog) crash(keep int) {
	for i, b := range p.blocks {
		p.blocks[i] = block{b.number, b.sure + b.loose[:min(keep, len(b.loose))], ""}
	}
}

// open is told behind a crash, when all that is there is sure.
func (p *plainLog) open() []api.Record {
	var told []api.Record
	for i, b := range p.blocks {
		rest := b.sure
		for rest != "" {
			r, took, e := record.Decode(rest)
			if e != api.OK {
				p.blocks[i].sure = strings.TrimSuffix(b.sure, rest)
				p.blocks = p.blocks[:i+1]
				return told
			}
			told = append(told, r)
			rest = rest[took:]
		}
	}
	return told
}

func (p *plainLog) files() files {
	var f files
	for _, b := range p.blocks {
		f.numbers = append(f.numbers, b.number)
		f.texts = append(f.texts, b.sure+b.loose)
	}
	return f
}

// run is a log that is written, and what was: all records that were appended since it was last
// begun anew, of which the first sure ones may not be lost.
type run struct {
	d        *disk.Disk
	l        *Log
	plain    *plainLog
	appended []api.Record
	sure     int
	next     int
}

func (x *run) step(t *testing.T, source *rand.Rand) {
	t.Helper()
	switch source.Intn(14) {
	case 0, 1:
		wantErr(t, "Sync", x.l.Sync(), api.OK)
		x.plain.sync()
		x.sure = len(x.appended)
	case 2:
		x.rewrite(t, source)
	case 3, 4:
		x.crash(t, source.Intn(60))
	default:
		x.next++
		r := sized(x.next%100+1, 12+source.Intn(30))
		e := x.l.Append(r)
		wantErr(t, "Append", e, x.plain.append(encoded(t, r)))
		if e == api.OK {
			x.appended = append(x.appended, r)
		}
	}
	if !filesOf(x.d).same(x.plain.files()) {
		t.Errorf("the disk is %v, want %v", filesOf(x.d), x.plain.files())
	}
	wantBlocks(t, x.l, x.plain.files().numbers...)
}

func (x *run) rewrite(t *testing.T, source *rand.Rand) {
	t.Helper()
	var rs []api.Record
	var rows []string
	for _, r := range x.appended {
		if source.Intn(1+len(x.appended)/2) == 0 {
			rs = append(rs, r)
			rows = append(rows, encoded(t, r))
		}
	}
	e := x.l.Rewrite(rs)
	wantErr(t, "Rewrite", e, x.plain.rewrite(rows))
	if e == api.OK {
		x.appended, x.sure = rs, len(rs)
	}
}

func (x *run) crash(t *testing.T, keep int) {
	t.Helper()
	x.d.Crash(keep)
	x.plain.crash(keep)
	l, told, e := Open(x.d, x.plain.size)
	wantErr(t, "Open", e, api.OK)
	if !slices.Equal(told, x.plain.open()) {
		t.Errorf("told: %+v", told)
	}
	if len(told) < x.sure || len(told) > len(x.appended) || !slices.Equal(told, x.appended[:len(told)]) {
		t.Errorf("told: %+v, but %d records of %+v were sure", told, x.sure, x.appended)
	}
	x.l, x.appended, x.sure = l, told, len(told)
}

// Behind each crash a front of what was appended is told, all that was there at the last Sync at
// least. Two logs are used in turn, so that it is seen that neither changes the other.
func TestManyCallsP2P13P14(t *testing.T) {
	source := rand.New(rand.NewSource(6))
	for _, room := range []int{30, 100, 300, 1000, 65536} {
		for _, size := range []int{1, 30, 60, 200, 4096} {
			var runs [2]run
			for i := range runs {
				d, l := newLog(t, room-i, size)
				runs[i] = run{d: d, l: l, plain: &plainLog{room: room - i, size: size}}
			}
			for range 600 {
				i := source.Intn(2)
				was := filesOf(runs[1-i].d)
				runs[i].step(t, source)
				if !filesOf(runs[1-i].d).same(was) {
					t.Errorf("the other log's disk changed")
				}
				if t.Failed() {
					t.FailNow()
				}
			}
		}
	}
}
