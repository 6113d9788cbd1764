package disk

import (
	"math"
	"math/rand"
	"slices"
	"strconv"
	"strings"
	"testing"
	"unsafe"

	"rillbook/api"
)

func newDisk(t *testing.T, room int) *Disk {
	t.Helper()
	d, e := New(room)
	if d == nil || e != api.OK {
		t.Fatalf("New(%d): %v, %d", room, d, e)
	}
	return d
}

func wantErr(t *testing.T, call string, e, want api.Errno) {
	t.Helper()
	if e != want {
		t.Errorf("%s: %d, want %d", call, e, want)
	}
}

// Try is asked, too, wherever something is appended: it tells the same, and changes nothing.
func wantAppend(t *testing.T, d *Disk, file int, s string, want api.Errno) {
	t.Helper()
	files, used := d.List(), d.Used()
	wantErr(t, "Try "+strconv.Itoa(file)+" of "+strconv.Itoa(len(s))+" bytes", d.Try(file, s), want)
	wantFiles(t, d, used, files...)
	wantErr(t, "Append "+strconv.Itoa(file)+" of "+strconv.Itoa(len(s))+" bytes", d.Append(file, s), want)
}

func wantText(t *testing.T, d *Disk, file int, want string) {
	t.Helper()
	if s, e := d.Read(file); s != want || e != api.OK {
		t.Errorf("Read(%d): %q, %d, want %q", file, s, e, want)
	}
}

func wantNone(t *testing.T, d *Disk, file int) {
	t.Helper()
	if s, e := d.Read(file); s != "" || e != api.ErrNone {
		t.Errorf("Read(%d): %q, %d, want none", file, s, e)
	}
	name := strconv.Itoa(file)
	wantErr(t, "Sync "+name, d.Sync(file), api.ErrNone)
	wantErr(t, "Remove "+name, d.Remove(file), api.ErrNone)
	for _, size := range []int{math.MinInt, -1, 0, 1, math.MaxInt} {
		wantErr(t, "Cut "+name, d.Cut(file, size), api.ErrNone)
	}
}

func wantFiles(t *testing.T, d *Disk, used int, files ...int) {
	t.Helper()
	if l := d.List(); !slices.Equal(l, files) {
		t.Errorf("List: %v, want %v", l, files)
	}
	if n := d.Used(); n != used {
		t.Errorf("Used: %d, want %d", n, used)
	}
}

func TestNewP11(t *testing.T) {
	for _, room := range []int{1, 2, 65535, 65536} {
		wantFiles(t, newDisk(t, room), 0)
	}
	for _, room := range []int{math.MinInt, -65536, -1, 0, 65537, math.MaxInt} {
		if d, e := New(room); d != nil || e != api.ErrArg {
			t.Errorf("New(%d): %v, %d, want ErrArg", room, d, e)
		}
	}
}

func TestAppendAndReadP11(t *testing.T) {
	d := newDisk(t, 100)
	wantAppend(t, d, 7, "abc", api.OK)
	wantText(t, d, 7, "abc")
	wantAppend(t, d, 7, "", api.OK)
	wantText(t, d, 7, "abc")
	wantAppend(t, d, 2, "\x00\xff\n", api.OK)
	wantAppend(t, d, 7, "de", api.OK)
	wantText(t, d, 7, "abcde")
	wantText(t, d, 2, "\x00\xff\n")
	wantAppend(t, d, 5, "", api.OK)
	wantText(t, d, 5, "")
	wantFiles(t, d, 8, 2, 5, 7)
}

func TestFileNumbersP11(t *testing.T) {
	d := newDisk(t, 10)
	for _, file := range []int{math.MinInt, -1 << 40, -1, 1<<40 + 1, 1 << 41, math.MaxInt} {
		wantAppend(t, d, file, "", api.ErrArg)
		wantAppend(t, d, file, "x", api.ErrArg)
		wantNone(t, d, file)
	}
	wantFiles(t, d, 0)
	for _, file := range []int{1 << 40, 0, 1<<40 - 1, 1, 1 << 32} {
		wantNone(t, d, file)
		wantAppend(t, d, file, "x", api.OK)
		wantText(t, d, file, "x")
	}
	wantFiles(t, d, 5, 0, 1, 1<<32, 1<<40-1, 1<<40)
}

func TestNoRoomP11(t *testing.T) {
	d := newDisk(t, 5)
	wantAppend(t, d, 1, "abcdef", api.ErrFull)
	wantFiles(t, d, 0)
	wantAppend(t, d, 1, "ab", api.OK)
	wantAppend(t, d, 1, "cdef", api.ErrFull)
	wantAppend(t, d, 2, "cdef", api.ErrFull)
	wantFiles(t, d, 2, 1)
	wantAppend(t, d, 2, "cde", api.OK)
	wantFiles(t, d, 5, 1, 2)
	wantAppend(t, d, 1, "x", api.ErrFull)
	wantAppend(t, d, 3, "x", api.ErrFull)
	wantAppend(t, d, 1, "", api.OK)
	wantAppend(t, d, 3, "", api.OK)
	wantText(t, d, 1, "ab")
	wantText(t, d, 2, "cde")
	wantFiles(t, d, 5, 1, 2, 3)

	whole := strings.Repeat("w", api.MaxRoom)
	d = newDisk(t, api.MaxRoom)
	wantAppend(t, d, 0, whole+"w", api.ErrFull)
	wantAppend(t, d, 0, whole, api.OK)
	wantAppend(t, d, 0, "w", api.ErrFull)
	wantText(t, d, 0, whole)
}

// What is cut, removed or lost in a crash is free again.
func TestRoomComesBackP11P12(t *testing.T) {
	for name, free := range map[string]func(d *Disk){
		"Cut":    func(d *Disk) { wantErr(t, "Cut", d.Cut(1, 2), api.OK) },
		"Remove": func(d *Disk) { wantErr(t, "Remove", d.Remove(2), api.OK) },
		"Crash":  func(d *Disk) { wantErr(t, "Sync", d.Sync(2), api.OK); d.Crash(2) },
	} {
		d := newDisk(t, 8)
		wantAppend(t, d, 1, "abcdef", api.OK)
		wantAppend(t, d, 2, "gh", api.OK)
		free(d)
		left := 8 - d.Used()
		if left < 2 {
			t.Errorf("%s: %d bytes are free", name, left)
		}
		wantAppend(t, d, 1, strings.Repeat("x", left+1), api.ErrFull)
		wantAppend(t, d, 1, strings.Repeat("x", left), api.OK)
		if d.Used() != 8 {
			t.Errorf("%s: %d bytes are used", name, d.Used())
		}
	}
}

func TestMostFilesP11(t *testing.T) {
	d := newDisk(t, 100)
	var files []int
	for i := range 20 {
		wantAppend(t, d, i*i, "x", api.OK)
		files = append(files, i*i)
	}
	wantFiles(t, d, 20, files...)
	wantAppend(t, d, 2, "x", api.ErrFull)
	wantAppend(t, d, 2, "", api.ErrFull)
	wantNone(t, d, 2)
	wantAppend(t, d, 4, "y", api.OK)
	wantText(t, d, 4, "xy")
	wantFiles(t, d, 21, files...)

	// A file without a byte is one, too.
	wantErr(t, "Cut", d.Cut(9, 0), api.OK)
	wantAppend(t, d, 2, "x", api.ErrFull)
	wantErr(t, "Remove", d.Remove(9), api.OK)
	wantAppend(t, d, 2, "z", api.OK)
	wantText(t, d, 2, "z")
	wantAppend(t, d, 9, "x", api.ErrFull)
}

// Where several errors apply the first one of the document's is told.
func TestOrderOfErrorsP11(t *testing.T) {
	d := newDisk(t, 1)
	wantAppend(t, d, -1, "ab", api.ErrArg)
	wantAppend(t, d, 1<<40+1, "ab", api.ErrArg)
	for i := range 20 {
		wantAppend(t, d, i, "", api.OK)
	}
	wantAppend(t, d, -1, "", api.ErrArg)
	wantAppend(t, d, 20, "ab", api.ErrFull)
	wantErr(t, "Cut", d.Cut(20, -1), api.ErrNone)
	wantErr(t, "Cut", d.Cut(-1, -1), api.ErrNone)
}

func TestCutP11(t *testing.T) {
	d := newDisk(t, 20)
	wantAppend(t, d, 3, "abcdef", api.OK)
	wantAppend(t, d, 4, "xyz", api.OK)
	for _, size := range []int{math.MinInt, -1, 7, math.MaxInt} {
		wantErr(t, "Cut "+strconv.Itoa(size), d.Cut(3, size), api.ErrArg)
		wantText(t, d, 3, "abcdef")
	}
	for _, size := range []int{6, 4, 4, 1, 0, 0} {
		wantErr(t, "Cut "+strconv.Itoa(size), d.Cut(3, size), api.OK)
		wantText(t, d, 3, "abcdef"[:size])
		wantFiles(t, d, size+3, 3, 4)
		wantErr(t, "Cut "+strconv.Itoa(size+1), d.Cut(3, size+1), api.ErrArg)
	}
	wantAppend(t, d, 3, "new", api.OK)
	wantText(t, d, 3, "new")
	wantText(t, d, 4, "xyz")
}

func TestCutIsSureP11P12(t *testing.T) {
	for size := range 7 {
		d := newDisk(t, 20)
		wantAppend(t, d, 3, "abc", api.OK)
		wantErr(t, "Sync", d.Sync(3), api.OK)
		wantAppend(t, d, 3, "def", api.OK)
		wantErr(t, "Cut", d.Cut(3, size), api.OK)
		wantAppend(t, d, 3, "ghi", api.OK)
		d.Crash(0)
		wantText(t, d, 3, "abcdef"[:size])
	}
}

func TestRemoveP11(t *testing.T) {
	d := newDisk(t, 20)
	wantAppend(t, d, 3, "abc", api.OK)
	wantAppend(t, d, 4, "xyz", api.OK)
	wantErr(t, "Sync", d.Sync(3), api.OK)
	wantErr(t, "Remove", d.Remove(3), api.OK)
	wantNone(t, d, 3)
	wantFiles(t, d, 3, 4)
	d.Crash(math.MaxInt)
	wantNone(t, d, 3)

	// One of the same number is a new one: nothing of it is sure.
	wantAppend(t, d, 3, "de", api.OK)
	wantText(t, d, 3, "de")
	d.Crash(0)
	wantText(t, d, 3, "")
	wantText(t, d, 4, "xyz")
}

func TestCrashKeepsP12(t *testing.T) {
	for _, x := range []struct {
		keep        int
		part, loose string
	}{
		{math.MinInt, "abc", ""},
		{-1, "abc", ""},
		{0, "abc", ""},
		{1, "abcd", "v"},
		{2, "abcde", "vw"},
		{3, "abcde", "vwx"},
		{5, "abcde", "vwxyz"},
		{6, "abcde", "vwxyz"},
		{math.MaxInt - 3, "abcde", "vwxyz"},
		{math.MaxInt, "abcde", "vwxyz"},
	} {
		d := newDisk(t, 20)
		wantAppend(t, d, 9, "abc", api.OK)
		wantErr(t, "Sync", d.Sync(9), api.OK)
		wantAppend(t, d, 9, "de", api.OK)
		wantAppend(t, d, 8, "vwxyz", api.OK)
		wantAppend(t, d, 5, "all", api.OK)
		wantErr(t, "Sync", d.Sync(5), api.OK)
		wantAppend(t, d, 6, "", api.OK)
		d.Crash(x.keep)
		// What stays is sure: a harder crash takes nothing more.
		for range 2 {
			wantText(t, d, 9, x.part)
			wantText(t, d, 8, x.loose)
			wantText(t, d, 5, "all")
			wantText(t, d, 6, "")
			wantFiles(t, d, len(x.part)+len(x.loose)+3, 5, 6, 8, 9)
			d.Crash(-1)
		}
	}
}

func TestBehindACrashP12(t *testing.T) {
	d := newDisk(t, 20)
	d.Crash(3)
	wantFiles(t, d, 0)
	wantAppend(t, d, 1, "abcd", api.OK)
	d.Crash(1)
	wantAppend(t, d, 1, "xyz", api.OK)
	wantText(t, d, 1, "axyz")
	d.Crash(2)
	wantText(t, d, 1, "axy")
	wantAppend(t, d, 1, "q", api.OK)
	wantErr(t, "Sync", d.Sync(1), api.OK)
	wantErr(t, "Sync", d.Sync(1), api.OK)
	d.Crash(0)
	wantText(t, d, 1, "axyq")
}

// An append makes nothing sure, and a sync of one file nothing of another.
func TestWhatIsNotSureP11P12(t *testing.T) {
	d := newDisk(t, 20)
	wantAppend(t, d, 1, "ab", api.OK)
	wantAppend(t, d, 2, "cd", api.OK)
	wantErr(t, "Sync", d.Sync(1), api.OK)
	wantAppend(t, d, 1, "ef", api.OK)
	d.Read(1)
	d.List()
	d.Used()
	d.Crash(0)
	wantText(t, d, 1, "ab")
	wantText(t, d, 2, "")
	wantFiles(t, d, 2, 1, 2)
}

// A call that answers an error changes nothing, nor what is sure.
func TestErrorsChangeNothingP2P11(t *testing.T) {
	wrong := []func(d *Disk) api.Errno{
		func(d *Disk) api.Errno { return d.Append(-1, "x") },
		func(d *Disk) api.Errno { return d.Append(1, "abcdefghijk") },
		func(d *Disk) api.Errno { return d.Append(3, "abcdefghijk") },
		func(d *Disk) api.Errno { return d.Cut(1, -1) },
		func(d *Disk) api.Errno { return d.Cut(1, 5) },
		func(d *Disk) api.Errno { return d.Cut(3, 0) },
		func(d *Disk) api.Errno { return d.Sync(3) },
		func(d *Disk) api.Errno { return d.Remove(3) },
		func(d *Disk) api.Errno { _, e := d.Read(3); return e },
	}
	for i, call := range wrong {
		d := newDisk(t, 10)
		wantAppend(t, d, 1, "ab", api.OK)
		wantErr(t, "Sync", d.Sync(1), api.OK)
		wantAppend(t, d, 1, "cd", api.OK)
		wantAppend(t, d, 2, "xy", api.OK)
		if call(d) == api.OK {
			t.Errorf("wrong call %d: OK", i)
		}
		wantFiles(t, d, 6, 1, 2)
		wantText(t, d, 1, "abcd")
		wantText(t, d, 2, "xy")
		d.Crash(0)
		wantFiles(t, d, 2, 1, 2)
		wantText(t, d, 1, "ab")
		wantText(t, d, 2, "")
	}
}

// pair is a file as the document's words have it: a sure front, and what is behind it.
type pair struct {
	number      int
	sure, loose string
}

// plainDisk is a disk told by the document's words, in a list: what a Disk is held against.
type plainDisk struct {
	room  int
	files []pair
}

func (p *plainDisk) at(file int) int {
	return slices.IndexFunc(p.files, func(f pair) bool { return f.number == file })
}

func (p *plainDisk) used() int {
	all := ""
	for _, f := range p.files {
		all += f.sure + f.loose
	}
	return len(all)
}

func (p *plainDisk) append(file int, s string) api.Errno {
	if file < 0 || file > 1<<40 {
		return api.ErrArg
	}
	at := p.at(file)
	if p.used()+len(s) > p.room || at < 0 && len(p.files) == 20 {
		return api.ErrFull
	}
	if at < 0 {
		p.files = append(p.files, pair{number: file})
		at = len(p.files) - 1
	}
	p.files[at].loose += s
	return api.OK
}

func (p *plainDisk) cut(file, size int) api.Errno {
	at := p.at(file)
	if at < 0 {
		return api.ErrNone
	}
	text := p.files[at].sure + p.files[at].loose
	if size < 0 || size > len(text) {
		return api.ErrArg
	}
	p.files[at] = pair{file, text[:size], ""}
	return api.OK
}

func (p *plainDisk) sync(file int) api.Errno {
	at := p.at(file)
	if at < 0 {
		return api.ErrNone
	}
	p.files[at] = pair{file, p.files[at].sure + p.files[at].loose, ""}
	return api.OK
}

func (p *plainDisk) remove(file int) api.Errno {
	at := p.at(file)
	if at < 0 {
		return api.ErrNone
	}
	p.files = slices.Delete(p.files, at, at+1)
	return api.OK
}

func (p *plainDisk) crash(keep int) {
	for i, f := range p.files {
		for n := 0; n < len(f.loose) && n < keep; n++ {
			f.sure += f.loose[n : n+1]
		}
		p.files[i] = pair{f.number, f.sure, ""}
	}
}

func wantPlain(t *testing.T, d *Disk, p *plainDisk) {
	t.Helper()
	var numbers []int
	for _, f := range p.files {
		numbers = append(numbers, f.number)
		wantText(t, d, f.number, f.sure+f.loose)
	}
	slices.Sort(numbers)
	wantFiles(t, d, p.used(), numbers...)
}

func anyCall(t *testing.T, source *rand.Rand, d *Disk, p *plainDisk) {
	t.Helper()
	file := source.Intn(25) - 1
	size := source.Intn(12) - 1
	switch source.Intn(12) {
	case 0:
		wantErr(t, "Cut", d.Cut(file, size), p.cut(file, size))
	case 1, 2:
		wantErr(t, "Sync", d.Sync(file), p.sync(file))
	case 3:
		wantErr(t, "Remove", d.Remove(file), p.remove(file))
	case 4:
		if source.Intn(4) == 0 {
			d.Crash(size)
			p.crash(size)
		}
	default:
		s := strings.Repeat(strconv.Itoa(source.Intn(10)), max(size, 0))
		wantAppend(t, d, file, s, p.append(file, s))
	}
}

// Two disks are used in turn, so that it is seen that neither changes the other.
func TestManyCallsP2P11P12(t *testing.T) {
	source := rand.New(rand.NewSource(5))
	for _, room := range []int{1, 7, 40, 150, 65536} {
		disks := []*Disk{newDisk(t, room), newDisk(t, room+room%2*3)}
		plain := []*plainDisk{{room: room}, {room: room + room%2*3}}
		for range 3000 {
			i := source.Intn(2)
			anyCall(t, source, disks[i], plain[i])
			wantPlain(t, disks[0], plain[0])
			wantPlain(t, disks[1], plain[1])
			if t.Failed() {
				t.FailNow()
			}
		}
	}
}

// A Disk that New didn't make has no room, but answers.
func TestAnyDiskIsAnsweredP1(t *testing.T) {
	numbers := []int{math.MinInt, -1, 0, 1, 1 << 40, 1<<40 + 1, math.MaxInt}
	made := newDisk(t, 65536)
	for _, d := range []*Disk{{}, made} {
		d.Crash(1)
		for _, file := range numbers {
			wantNone(t, d, file)
			for _, s := range []string{"", "x", strings.Repeat("x", 1<<20)} {
				for _, size := range numbers {
					d.Append(file, s)
					d.Cut(file, size)
					d.Append(file, s)
					d.Sync(file)
					d.Append(file, s)
					d.Read(file)
					d.Crash(size)
				}
			}
		}
	}
	empty := &Disk{}
	wantFiles(t, empty, 0)
	wantAppend(t, empty, 1, "x", api.ErrFull)
	wantAppend(t, empty, 1, "", api.OK)
	wantText(t, empty, 1, "")
	wantFiles(t, empty, 0, 1)
}

func TestListIsNewMemoryP2(t *testing.T) {
	d := newDisk(t, 20)
	for _, file := range []int{3, 1, 2} {
		wantAppend(t, d, file, "x", api.OK)
	}
	first, second := d.List(), d.List()
	first = first[:cap(first)]
	for i := range first {
		first[i] = -7
	}
	if !slices.Equal(second, []int{1, 2, 3}) {
		t.Errorf("lists share memory: %v", second)
	}
	wantFiles(t, d, 3, 1, 2, 3)
}

func place(s string) uintptr { return uintptr(unsafe.Pointer(unsafe.StringData(s))) }

// A text that can't be written to can still share memory with another one: its place tells.
func sharesMemory(a, b string) bool {
	return a != "" && b != "" && place(a) < place(b)+uintptr(len(b)) && place(b) < place(a)+uintptr(len(a))
}

func TestTextsAreNewMemoryP2(t *testing.T) {
	d := newDisk(t, 1000)
	s := strings.Repeat("abc", 50)
	wantAppend(t, d, 1, s, api.OK)
	wantAppend(t, d, 2, s, api.OK)
	kept := unsafe.String(unsafe.SliceData(d.files[1].text), cap(d.files[1].text))
	all := []string{s, kept}
	for _, file := range []int{1, 1, 2} {
		text, _ := d.Read(file)
		all = append(all, text)
	}
	for i, a := range all {
		for _, b := range all[:i] {
			if sharesMemory(a, b) {
				t.Errorf("%.20q and %.20q share memory", a, b)
			}
		}
	}
}

// What was read stays what it was, whatever is done then.
func TestTextsStayP2(t *testing.T) {
	d := newDisk(t, 1000)
	wantAppend(t, d, 1, "abcdef", api.OK)
	text, _ := d.Read(1)
	wantErr(t, "Cut", d.Cut(1, 2), api.OK)
	wantAppend(t, d, 1, "XYZ", api.OK)
	d.Crash(1)
	wantAppend(t, d, 1, "123456", api.OK)
	if text != "abcdef" {
		t.Errorf("%q, want %q", text, "abcdef")
	}
	wantText(t, d, 1, "abX123456")
}
