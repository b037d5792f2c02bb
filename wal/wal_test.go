package wal_test

import (
	"encoding/binary"
	"hash/crc32"
	"math"
	"math/rand"
	"slices"
	"strconv"
	"strings"
	"testing"

	"agora/api"
	"agora/disk"
	"agora/wal"
)

const (
	maxRow  = 1 << 20
	maxFile = 1 << 24
)

// table is that of CRC-32C.
var table = crc32.MakeTable(crc32.Castagnoli)

// wrongFiles are numbers that are no file numbers of a log.
var wrongFiles = []int{-1, 7, 8, -2, 9, math.MinInt, math.MaxInt, 1 << 32, 1<<32 + 6, -1 << 32}

// record returns the record of a row, made by other packages than those that the log uses.
func record(row string) string {
	b := binary.AppendUvarint(nil, uint64(len(row)))
	return string(binary.LittleEndian.AppendUint32(b, crc32.Checksum([]byte(row), table))) + row
}

// joined returns the records of rows, one after the other.
func joined(rows ...string) string {
	var list []string
	for _, row := range rows {
		list = append(list, record(row))
	}
	return strings.Join(list, "")
}

// validRows returns the rows of the valid part of a short text: it tries every part of it with which a record may begin and end.
func validRows(text string) []string {
	for end := range len(text) + 1 {
		for start := range min(end, 8) + 1 {
			if row := text[start:end]; record(row) == text[:end] {
				return append([]string{row}, validRows(text[end:])...)
			}
		}
	}
	return nil
}

// long returns a row of n bytes.
func long(n int) string { return strings.Repeat("long row ", n/9+1)[:n] }

// ok fails unless e is OK.
func ok(t *testing.T, e api.Errno) {
	t.Helper()
	fails(t, e, api.OK)
}

// fails fails unless e is want.
func fails(t *testing.T, e, want api.Errno) {
	t.Helper()
	if e != want {
		t.Fatal("error", e, "want", want)
	}
}

// file is a file of a disk: its bytes, and how many of them are durable.
type file struct {
	text string
	safe int
}

// state is all the files of a disk.
type state [8]file

func (s state) String() string {
	var b strings.Builder
	for _, x := range s {
		b.WriteString(strconv.Quote(x.text) + " " + strconv.Itoa(x.safe) + "; ")
	}
	return b.String()
}

// files returns the files of a disk, also of one that is down.
func files(d *disk.Disk) state {
	var list state
	c := d.Copy()
	c.Start()
	for f := range list {
		list[f].text, _ = c.Read(f)
	}
	c.Crash(nil)
	for f := range list {
		list[f].safe = c.Size(f)
	}
	return list
}

// holds fails unless the file f is text, of which the first safe bytes are durable.
func holds(t *testing.T, d *disk.Disk, f int, text string, safe int) {
	t.Helper()
	if x := files(d)[f]; x.text != text || x.safe != safe {
		t.Fatalf("file %d: %d bytes %.40q, %d durable; want %d bytes %.40q, %d durable", f, len(x.text), x.text, x.safe, len(text), text, safe)
	}
}

// put appends a text to the file f, and makes its first safe bytes durable, or all if it has no more.
func put(t *testing.T, d *disk.Disk, f int, text string, safe int) {
	t.Helper()
	safe = min(safe, len(text))
	ok(t, d.Append(f, text[:safe]))
	ok(t, d.Flush(f))
	ok(t, d.Append(f, text[safe:]))
}

// made returns a disk whose file f is text, of which nothing is durable.
func made(t *testing.T, f int, text string) *disk.Disk {
	t.Helper()
	d := disk.New()
	put(t, d, f, text, 0)
	return d
}

// has fails unless the rows of the log are want.
func has(t *testing.T, l *wal.Log, want ...string) {
	t.Helper()
	if all := l.All(); !slices.Equal(all, want) || l.Len() != len(want) {
		t.Fatalf("%d rows %.80q, want %d rows %.80q", l.Len(), all, len(want), want)
	}
}

// open opens the log in the file f of d, and fails unless its rows are want.
func open(t *testing.T, d *disk.Disk, f int, want ...string) *wal.Log {
	t.Helper()
	l, e := wal.Open(d, f)
	ok(t, e)
	has(t, l, want...)
	return l
}

// opens opens a log, and fails unless that fails with want.
func opens(t *testing.T, d *disk.Disk, f int, want api.Errno) {
	t.Helper()
	l, e := wal.Open(d, f)
	fails(t, e, want)
	if l != nil {
		t.Fatal("a log beside", e)
	}
}

// filled returns a log in the file f of a new disk that contains rows, which are durable.
func filled(t *testing.T, f int, rows ...string) (*disk.Disk, *wal.Log) {
	t.Helper()
	d := made(t, f, joined(rows...))
	return d, open(t, d, f, rows...)
}

// crashed returns a copy of a disk after a crash that keeps what keep says, and a start.
func crashed(d *disk.Disk, keep ...int) *disk.Disk {
	c := d.Copy()
	c.Crash(keep)
	c.Start()
	return c
}

// openCalls returns how many calls that may change a file Open makes.
func openCalls(d *disk.Disk, f int) int {
	for n := 0; ; n++ {
		c := d.Copy()
		c.Arm(n+1, nil)
		wal.Open(c, f)
		if !c.Down() {
			return n
		}
	}
}

// sets are lists of rows.
func sets() [][]string {
	var bytes []byte
	for i := range 256 {
		bytes = append(bytes, byte(i))
	}
	return [][]string{
		nil,
		{""},
		{"a"},
		{"", "", ""},
		{"a", "", "bcd"},
		{"x", ""},
		{string(bytes), string(bytes[255:]), string(bytes[:1])},
		{record("a"), record(""), record("a") + record("b"), record(record("c"))},
		{long(126), long(127), long(128), long(129), long(1<<14 - 1), long(1 << 14), long(1<<14 + 1)},
		{"end", long(1 << 14), ""},
		slices.Repeat([]string{"", "ab", "c"}, 50),
	}
}

// P10.1: Open of no disk, or of a number for which there are no two files, is ErrArg, and calls nothing of the disk.
func TestOpenNumbers(t *testing.T) {
	for _, f := range append([]int{0, 1, 5, 6}, wrongFiles...) {
		opens(t, nil, f, api.ErrArg)
	}
	d := made(t, 0, "torn")
	put(t, d, 6, "torn", 2)
	put(t, d, 7, record("a")+"torn", 2)
	d.Lose(1)
	d.Arm(1, nil)
	was := files(d)
	for _, f := range wrongFiles {
		opens(t, d, f, api.ErrArg)
	}
	if files(d) != was || d.Down() {
		t.Error("changed")
	}
	fails(t, d.Append(0, "x"), api.ErrDown)
	// It comes before the error of a disk that is down.
	for _, f := range wrongFiles {
		opens(t, d, f, api.ErrArg)
	}
	for f := range 7 {
		opens(t, d, f, api.ErrDown)
	}
}

// P10.1: a log may be in each of the files 0 to 6; of an empty file, it is empty.
func TestOpenEmpty(t *testing.T) {
	for f := range 7 {
		d := disk.New()
		l := open(t, d, f)
		holds(t, d, f, "", 0)
		ok(t, l.Append("a"))
		holds(t, d, f, record("a"), 0)
		ok(t, l.Rewrite([]string{"b", "c"}))
		open(t, d, f, "b", "c")
		for g, x := range files(d) {
			if g != f && x.text != "" {
				t.Error(f, g, x)
			}
		}
	}
}

// P10.1: the log contains the rows whose records the file contains, and what was read is durable then.
func TestOpenRows(t *testing.T) {
	for _, rows := range sets() {
		text := joined(rows...)
		for _, safe := range []int{0, len(text) / 2, len(text)} {
			d := disk.New()
			put(t, d, 3, text, safe)
			open(t, d, 3, rows...)
			holds(t, d, 3, text, len(text))
		}
	}
}

// P10.1: the rows of the greatest length are read.
func TestOpenLongRows(t *testing.T) {
	rows := []string{long(maxRow - 1), "a", long(maxRow)}
	d := made(t, 0, joined(rows...))
	open(t, d, 0, rows...)
	// One byte more is no row, although all of it is there.
	d = made(t, 0, joined("a", long(maxRow+1), "b"))
	open(t, d, 0, "a")
	holds(t, d, 0, record("a"), len(record("a")))
}

// P10.1: the file is truncated to the records that are whole, wherever the last one is cut off, and whatever was durable.
func TestOpenTorn(t *testing.T) {
	for _, rows := range [][]string{{""}, {"abc"}, {"a", ""}, {"", "a", "bcd"}, {"a", long(130)}, {"", "", ""}} {
		whole := joined(rows[:len(rows)-1]...)
		text := joined(rows...)
		for end := len(whole); end < len(text); end++ {
			for safe := range end + 1 {
				d := disk.New()
				put(t, d, 1, text[:end], safe)
				open(t, d, 1, rows[:len(rows)-1]...)
				holds(t, d, 1, whole, len(whole))
			}
		}
	}
}

// P10.1: what remains of a file that is torn can be continued.
func TestOpenTornContinued(t *testing.T) {
	d := made(t, 1, joined("a", "bcd")[:13])
	l := open(t, d, 1, "a")
	ok(t, l.Append("e"))
	has(t, l, "a", "e")
	open(t, d, 1, "a", "e")
}

// P10.1: a record whose length, checksum or bytes were changed, and all that follows it, is not read.
func TestOpenChanged(t *testing.T) {
	rows := []string{"a", "bcd", "", long(130), "e"}
	text := joined(rows...)
	for k, row := range rows {
		start := len(joined(rows[:k]...))
		header := len(record(row)) - len(row)
		for i := start; i < start+header+len(row); i++ {
			for change := 1; change < 256; change++ {
				if k == 3 && i >= start+header && change&(change-1) != 0 {
					continue // single bits are enough of the long row
				}
				b := []byte(text)
				b[i] ^= byte(change)
				want := rows[:k]
				if i < start+header-4 {
					// Another length could make another record of the bytes, so that is tried.
					want = validRows(string(b))
				}
				d := made(t, 2, string(b))
				open(t, d, 2, want...)
				holds(t, d, 2, joined(want...), len(joined(want...)))
			}
		}
	}
}

// noRecords are bytes that are no record of a row, also if more bytes follow them.
func noRecords() []string {
	sum := func(s string) string { return record(s)[len(record(s))-len(s)-4:][:4] }
	back := func(s string) string {
		b := []byte(s)
		slices.Reverse(b)
		return string(b)
	}
	max9 := strings.Repeat("\xff", 8) + "\x7f"
	return []string{
		// Lengths that are written in another way.
		"\x80\x00" + sum(""),
		"\x81\x00" + sum("a") + "a",
		"\x82\x80\x00" + sum("ab") + "ab",
		"\x80\x81\x00" + sum(long(128)) + long(128),
		"\x80\x80\x80\x80\x80\x80\x80\x80\x80\x00" + sum(""),
		"\x80\x80\x80\x80\x80\x80\x80\x80\x80\x80\x00" + sum(""),
		"\x81\x80\x80\x80\x80\x80\x80\x80\x80\x00" + sum("a") + "a",
		"\x01\x00\x00\x00" + sum("a") + "a",
		"\x00\x01" + sum("a") + "a",
		// Lengths that are no int, or longer than any file.
		strings.Repeat("\xff", 9) + "\x01" + sum("") + "abc",
		strings.Repeat("\xff", 9) + "\x00" + sum("") + "abc",
		strings.Repeat("\x80", 9) + "\x01" + sum("") + "abc",
		max9 + sum("") + "abc",
		max9 + sum("abc") + "abc",
		"\x81\x80\x80\x80\x80\x80\x80\x80\x01" + sum("a") + "a",
		"\x81\x80\x80\x80\x10" + sum("a") + "a",
		// Checksums in the other order, of other rows, or of the record.
		"\x01" + back(sum("a")) + "a",
		"\x01" + sum("b") + "a",
		"\x01" + sum("") + "a",
		"\x01" + sum("\x01a") + "a",
		"\x00" + sum("a"),
		"\x00\x00\x00\x00\x01",
		"\x00\xff\xff\xff\xff",
		// The checksum behind the row.
		"\x01a" + sum("a"),
		// A length that is wrong by one.
		"\x02" + sum("a") + "a",
		"\x02" + sum("abc") + "abc",
	}
}

// P10.1: a length that is written in another way than code.Num writes it, or is too long, makes no record.
func TestOpenNoRecords(t *testing.T) {
	for i, s := range noRecords() {
		for _, rows := range [][]string{nil, {""}, {"a", "bcd"}} {
			for _, after := range []string{"", record("a"), joined("", "", "")} {
				text := joined(rows...) + s + after
				d := made(t, 0, text)
				l, e := wal.Open(d, 0)
				if e != api.OK || !slices.Equal(l.All(), rows) {
					t.Fatal(i, rows, after, e)
				}
				holds(t, d, 0, joined(rows...), len(joined(rows...)))
			}
		}
	}
}

// P10.1: a length that is longer than the rest of the file makes no record, also if the checksum is that of the rest, or of the empty row.
func TestOpenShort(t *testing.T) {
	for _, row := range []string{"", "a", "abc"} {
		for _, n := range []int{len(row) + 1, 100, maxRow, maxRow + 1, 1 << 61, math.MaxInt} {
			length := string(binary.AppendUvarint(nil, uint64(n)))
			for _, text := range []string{length + record(row)[1:], length + "\x00\x00\x00\x00" + row} {
				d := made(t, 0, record("x")+text)
				open(t, d, 0, "x")
				holds(t, d, 0, record("x"), len(record("x")))
			}
		}
	}
}

// P10.1: texts of few different bytes, in which there are many records, are read as the definition says.
func TestOpenTexts(t *testing.T) {
	r := rand.New(rand.NewSource(1))
	parts := []string{"\x00", "\x00\x00\x00\x00\x00", "\x01", record("a"), record(""), record("\x00"), record("\x00\x00"), "a", "\x80"}
	for range 3000 {
		var b strings.Builder
		for range r.Intn(8) {
			b.WriteString(parts[r.Intn(len(parts))])
		}
		text := b.String()
		want := validRows(text)
		d := made(t, 0, text)
		open(t, d, 0, want...)
		holds(t, d, 0, joined(want...), len(joined(want...)))
	}
}

// P10.1: the file behind that of the log is emptied, durably, whatever it contains; the other files are left as they are.
func TestOpenBehind(t *testing.T) {
	for f := range 7 {
		for _, behind := range []string{"x", record("b"), joined("a", "b", "c"), "torn", long(300)} {
			for _, safe := range []int{0, 1, len(behind)} {
				d := disk.New()
				for g := range 8 {
					put(t, d, g, "other", 2)
				}
				ok(t, d.Cut(f, 0))
				ok(t, d.Cut(f+1, 0))
				put(t, d, f, joined("a", "b"), 3)
				put(t, d, f+1, behind, safe)
				want := files(d)
				want[f].safe, want[f+1] = len(want[f].text), file{}
				open(t, d, f, "a", "b")
				if files(d) != want {
					t.Fatalf("%d %q %d: %v", f, behind, safe, files(d))
				}
			}
		}
	}
}

// P10.1: of a disk that is down, Open returns ErrDown and changes nothing.
func TestOpenDown(t *testing.T) {
	d := made(t, 0, record("a")+"torn")
	put(t, d, 1, "behind", 3)
	d.Lose(1)
	d.Crash([]int{9, 9})
	was := files(d)
	for f := range 7 {
		opens(t, d, f, api.ErrDown)
	}
	if files(d) != was || !d.Down() {
		t.Error("changed")
	}
	// The lost flush is still pending.
	d.Start()
	opens(t, d, 0, api.ErrLost)
	open(t, d, 0, "a")
}

// P10.1: if the flush is lost, the steps before it remain done.
func TestOpenLost(t *testing.T) {
	d := disk.New()
	put(t, d, 4, joined("a", "b")+"torn", 3)
	put(t, d, 5, "behind", 3)
	d.Lose(2)
	opens(t, d, 4, api.ErrLost)
	holds(t, d, 4, joined("a", "b"), 3)
	holds(t, d, 5, "", 0)
	opens(t, d, 4, api.ErrLost)
	open(t, d, 4, "a", "b")
	holds(t, d, 4, joined("a", "b"), len(joined("a", "b")))
}

// P10.1: Open truncates, and flushes, as often as its steps say; at a crash in one of them, those before it remain done.
func TestOpenCrash(t *testing.T) {
	text := joined("a", "bcd")
	for _, torn := range []string{"", "torn"} {
		for _, behind := range []string{"", "behind"} {
			d := disk.New()
			put(t, d, 4, text+torn, 3)
			put(t, d, 5, behind, 2)
			steps := []string{"flush"}
			if behind != "" {
				steps = append([]string{"empty"}, steps...)
			}
			if torn != "" {
				steps = append([]string{"cut"}, steps...)
			}
			if n := openCalls(d, 4); n != len(steps) {
				t.Fatal(torn, behind, n, steps)
			}
			for i := range steps {
				for _, keep := range [][]int{nil, {0, 0, 0, 0, 5, 1}, {9, 9, 9, 9, 99, 99}} {
					c, want := d.Copy(), d.Copy()
					c.Arm(i+1, keep)
					opens(t, c, 4, api.ErrDown)
					for _, step := range steps[:i] {
						switch step {
						case "cut":
							ok(t, want.Cut(4, len(text)))
						case "empty":
							ok(t, want.Cut(5, 0))
						}
					}
					want.Crash(keep)
					if !c.Down() || files(c) != files(want) {
						t.Fatalf("%q %q %d %v: %v, want %v", torn, behind, i, keep, files(c), files(want))
					}
					c.Start()
					open(t, c, 4, validRows(files(c)[4].text)...)
				}
			}
		}
	}
}

// P10.1: a second Open changes nothing, and finds the same rows.
func TestOpenTwice(t *testing.T) {
	for _, rows := range sets() {
		d := made(t, 2, joined(rows...)+"torn")
		put(t, d, 3, "behind", 1)
		first := open(t, d, 2, rows...)
		was := files(d)
		second := open(t, d, 2, rows...)
		if files(d) != was {
			t.Error("changed", rows)
		}
		has(t, first, second.All()...)
	}
}

// P10.2: Append appends the record to the file, not durably, and the row to the log.
func TestAppend(t *testing.T) {
	for _, rows := range sets() {
		d, l := filled(t, 5, "first")
		put(t, d, 7, "other", 2)
		want := files(d)
		for i, row := range rows {
			ok(t, l.Append(row))
			has(t, l, append([]string{"first"}, rows[:i+1]...)...)
			want[5].text += record(row)
			if files(d) != want {
				t.Fatalf("%d: %v", i, files(d))
			}
		}
		open(t, d, 5, append([]string{"first"}, rows...)...)
	}
}

// P10.2: a row of 2^20 bytes is appended; one of one byte more is not.
func TestAppendLong(t *testing.T) {
	d, l := filled(t, 0, "a")
	ok(t, l.Append(long(maxRow)))
	want := files(d)
	d.Arm(1, nil)
	for _, n := range []int{maxRow + 1, maxRow + 2, 2 * maxRow, maxFile + 1} {
		fails(t, l.Append(long(n)), api.ErrFull)
	}
	has(t, l, "a", long(maxRow))
	// It does not come to a call of the disk, at which the machine would have crashed.
	if d.Down() || files(d) != want {
		t.Error("changed")
	}
	d.Arm(0, nil)
	ok(t, l.Append("b"))
	open(t, d, 0, "a", long(maxRow), "b")
}

// fullRows are rows whose records are a file of the greatest length; without the last byte of the last one, a byte is left.
func fullRows() []string {
	rows := slices.Repeat([]string{long(maxRow)}, 15)
	return append(rows, long(maxFile-len(joined(rows...))-len(record(long(maxRow)))+maxRow))
}

// P10.2: a record that fits into the file to the byte is appended; one that does not leaves the log as it is.
func TestAppendFull(t *testing.T) {
	rows := fullRows()
	d, l := filled(t, 0, rows[:15]...)
	last := rows[15]
	fails(t, l.Append(last+"x"), api.ErrFull)
	has(t, l, rows[:15]...)
	ok(t, l.Append(last[:len(last)-1]))
	has(t, l, append(slices.Clone(rows[:15]), last[:len(last)-1])...)
	fails(t, l.Append(""), api.ErrFull)

	d, l = filled(t, 0, rows[:15]...)
	ok(t, l.Append(last))
	has(t, l, rows...)
	if d.Size(0) != maxFile {
		t.Fatal(d.Size(0))
	}
	was := files(d)
	for _, row := range []string{"", "a", long(maxRow)} {
		fails(t, l.Append(row), api.ErrFull)
	}
	has(t, l, rows...)
	if files(d) != was {
		t.Error("changed")
	}
	ok(t, l.Flush())
	open(t, crashed(d), 0, rows...)
}

// P10.2: Append at which the machine crashes returns ErrDown and leaves the log as it is, whatever survives; it is one call of the disk.
func TestAppendCrash(t *testing.T) {
	for kept := range len(record("cde")) + 2 {
		d, l := filled(t, 0, "a")
		ok(t, l.Append("b"))
		ok(t, l.Flush())
		d.Arm(1, []int{kept})
		fails(t, l.Append("cde"), api.ErrDown)
		has(t, l, "a", "b")
		text := joined("a", "b") + record("cde")[:min(kept, len(record("cde")))]
		holds(t, d, 0, text, len(text))
		d.Start()
		open(t, d, 0, validRows(text)...)
	}
	d, l := filled(t, 0, "a")
	d.Arm(3, nil)
	ok(t, l.Append(""))
	ok(t, l.Append("b"))
	fails(t, l.Append("c"), api.ErrDown)
	has(t, l, "a", "", "b")
}

// P10.2: Flush makes what was appended durable; it is a single flush of the file, and of no other one.
func TestFlush(t *testing.T) {
	d, l := filled(t, 0)
	put(t, d, 1, "behind", 1)
	put(t, d, 2, "other", 2)
	ok(t, l.Append("a"))
	open(t, crashed(d), 0)
	ok(t, l.Flush())
	holds(t, d, 0, record("a"), len(record("a")))
	holds(t, d, 1, "behind", 1)
	holds(t, d, 2, "other", 2)
	ok(t, l.Append("b"))
	has(t, l, "a", "b")
	open(t, crashed(d), 0, "a")
	open(t, crashed(d, 7), 0, "a", "b")
	ok(t, l.Flush())
	ok(t, l.Flush())
	has(t, l, "a", "b")
	open(t, crashed(d), 0, "a", "b")
	d.Arm(2, nil)
	ok(t, l.Flush())
	fails(t, l.Flush(), api.ErrDown)
	has(t, l, "a", "b")
}

// P10.2: a flush that is lost leaves everything as it is; the next one is not lost.
func TestFlushLost(t *testing.T) {
	d, l := filled(t, 0, "a")
	ok(t, l.Append("b"))
	d.Lose(2)
	for range 2 {
		fails(t, l.Flush(), api.ErrLost)
		has(t, l, "a", "b")
		holds(t, d, 0, joined("a", "b"), len(record("a")))
	}
	ok(t, l.Flush())
	holds(t, d, 0, joined("a", "b"), len(joined("a", "b")))
}

// P10.3: All and Len return the rows of the log after every call.
func TestAll(t *testing.T) {
	_, l := filled(t, 0)
	var want []string
	for i, rows := range sets() {
		has(t, l, want...)
		if i%3 == 2 {
			ok(t, l.Rewrite(rows))
			want = nil
		} else {
			for _, row := range rows {
				ok(t, l.Append(row))
			}
		}
		want = append(want, rows...)
		has(t, l, want...)
		ok(t, l.Flush())
		has(t, l, want...)
	}
}

// P10.4: Rewrite replaces the rows and the file, durably; the file behind it is empty then, whatever it contained, and the others are left as they are.
func TestRewrite(t *testing.T) {
	for _, old := range sets() {
		for _, rows := range sets() {
			d, l := filled(t, 4, old...)
			ok(t, l.Append("not flushed"))
			put(t, d, 5, "behind", 2)
			put(t, d, 3, "other", 2)
			put(t, d, 6, "other", 3)
			ok(t, l.Rewrite(rows))
			has(t, l, rows...)
			holds(t, d, 4, joined(rows...), len(joined(rows...)))
			holds(t, d, 5, "", 0)
			holds(t, d, 3, "other", 2)
			holds(t, d, 6, "other", 3)
			// The log can be continued.
			ok(t, l.Append("more"))
			has(t, l, append(slices.Clone(rows), "more")...)
			open(t, d, 4, l.All()...)
		}
	}
}

// P10.4: a row that is too long, at any place, is ErrFull before anything is done.
func TestRewriteLong(t *testing.T) {
	d, l := filled(t, 0, "a")
	put(t, d, 1, "behind", 2)
	d.Lose(1)
	d.Arm(1, nil)
	was := files(d)
	for _, n := range []int{maxRow + 1, 2 * maxRow, maxFile + 1} {
		for _, rows := range [][]string{{long(n)}, {long(n), "b"}, {"b", long(n), "c"}, {"b", "c", long(n)}} {
			fails(t, l.Rewrite(rows), api.ErrFull)
			has(t, l, "a")
		}
	}
	if files(d) != was || d.Down() {
		t.Fatal("changed")
	}
	d.Arm(0, nil)
	d.Lose(0)
	rows := []string{long(maxRow), "", long(maxRow)}
	ok(t, l.Rewrite(rows))
	open(t, d, 0, rows...)
}

// P10.4: rows whose records fit into a file to the byte are written; one byte more is ErrFull, after the file behind was emptied, and leaves the log as it is.
func TestRewriteFull(t *testing.T) {
	rows := fullRows()
	d, l := filled(t, 0, "a")
	for _, more := range [][]string{append(slices.Clone(rows[:15]), rows[15]+"x"), append(slices.Clone(rows), ""), append([]string{""}, rows...)} {
		put(t, d, 1, "behind", 2)
		fails(t, l.Rewrite(more), api.ErrFull)
		has(t, l, "a")
		holds(t, d, 0, record("a"), len(record("a")))
		holds(t, d, 1, "", 0)
	}
	ok(t, l.Rewrite(rows))
	has(t, l, rows...)
	if d.Size(0) != maxFile || d.Size(1) != 0 {
		t.Error(d.Size(0), d.Size(1))
	}
	fails(t, l.Append(""), api.ErrFull)
	ok(t, l.Rewrite(rows))
	open(t, crashed(d), 0, rows...)
}

// P10.4: if the flush is lost, the log is as it was, and the new rows are in the file behind, not durably; the next Rewrite succeeds.
func TestRewriteLost(t *testing.T) {
	for _, rows := range [][]string{nil, {"x"}, {"x", "", "yz"}} {
		d, l := filled(t, 0, "a")
		ok(t, l.Append("b"))
		d.Lose(2)
		for range 2 {
			fails(t, l.Rewrite(rows), api.ErrLost)
			has(t, l, "a", "b")
			holds(t, d, 0, joined("a", "b"), len(record("a")))
			holds(t, d, 1, joined(rows...), 0)
		}
		// The log can be continued, and opened.
		ok(t, l.Append("c"))
		open(t, d.Copy(), 0, "a", "b", "c")
		ok(t, l.Rewrite(rows))
		has(t, l, rows...)
		holds(t, d, 0, joined(rows...), len(joined(rows...)))
		holds(t, d, 1, "", 0)
	}
}

// P10.4: Rewrite makes as many calls as its steps say, also with no rows; at a crash in one of them, the log is as it was, and those before it remain done.
func TestRewriteCrash(t *testing.T) {
	for _, rows := range [][]string{nil, {"x"}, {"x", "", "yz"}, slices.Repeat([]string{"w"}, 100)} {
		for _, behind := range []string{"", "behind"} {
			steps := []string{"append", "flush", "turn"}
			if behind != "" {
				steps = append([]string{"empty"}, steps...)
			}
			for i := range len(steps) + 1 {
				for _, keep := range [][]int{nil, {3, 2}, {99, 9}, {0, 9999}} {
					d, l := filled(t, 0, "a")
					ok(t, l.Append("b"))
					put(t, d, 1, behind, len(behind)/2)
					want := d.Copy()
					d.Arm(i+1, keep)
					if i == len(steps) {
						ok(t, l.Rewrite(rows))
						if d.Down() {
							t.Fatal("crash at the end")
						}
						continue
					}
					fails(t, l.Rewrite(rows), api.ErrDown)
					has(t, l, "a", "b")
					for j, step := range steps[:i+1] {
						switch {
						case step == "append":
							ok(t, want.Append(1, joined(rows...)))
						case step == "empty" && j < i:
							ok(t, want.Cut(1, 0))
						case step == "flush" && j < i:
							ok(t, want.Flush(1))
						}
					}
					want.Crash(keep)
					if !d.Down() || files(d) != files(want) {
						t.Fatalf("%q %q %d %v: %v, want %v", rows, behind, i, keep, files(d), files(want))
					}
				}
			}
		}
	}
}

// P10.5: while the disk is down, calls return ErrDown, those with a row that is too long ErrFull, and the log shows what it showed before.
func TestDown(t *testing.T) {
	for _, rows := range [][]string{nil, {"a", "", "bcd"}} {
		for _, behind := range []string{"", "behind"} {
			d, l := filled(t, 0, rows...)
			ok(t, l.Append("lost"))
			put(t, d, 1, behind, 0)
			d.Lose(1)
			d.Crash([]int{0, 99})
			was := files(d)
			want := append(slices.Clone(rows), "lost")
			for _, row := range []string{"", "a", long(maxRow)} {
				fails(t, l.Append(row), api.ErrDown)
				fails(t, l.Flush(), api.ErrDown)
				fails(t, l.Rewrite([]string{row, "b"}), api.ErrDown)
				has(t, l, want...)
			}
			for _, n := range []int{maxRow + 1, maxFile + 1} {
				fails(t, l.Append(long(n)), api.ErrFull)
				fails(t, l.Rewrite([]string{"a", long(n)}), api.ErrFull)
			}
			fails(t, l.Rewrite(nil), api.ErrDown)
			has(t, l, want...)
			if !d.Down() || files(d) != was {
				t.Error("changed")
			}
			d.Start()
			fails(t, d.Flush(0), api.ErrLost)
			open(t, d, 0, rows...)
		}
	}
}

// P10.5: the error of a file that would be too long comes after ErrDown.
func TestDownFull(t *testing.T) {
	rows := fullRows()
	d, l := filled(t, 0, rows...)
	d.Crash(nil)
	fails(t, l.Append(""), api.ErrDown)
	fails(t, l.Append(long(maxRow)), api.ErrDown)
	fails(t, l.Append(long(maxRow+1)), api.ErrFull)
	fails(t, l.Rewrite(append(slices.Clone(rows), "")), api.ErrDown)
	has(t, l, rows...)
	// So it does if the machine crashes at that call.
	d, l = filled(t, 0, rows...)
	d.Arm(1, nil)
	fails(t, l.Append("a"), api.ErrDown)
	has(t, l, rows...)
	d.Start()
	l = open(t, d, 0, rows...)
	d.Arm(1, nil)
	fails(t, l.Rewrite(append(slices.Clone(rows), "")), api.ErrDown)
	has(t, l, rows...)
}

// P10.6: a list that is given is neither changed nor kept, nor is what lies beyond its length.
func TestArguments(t *testing.T) {
	d, l := filled(t, 0, "first")
	list := []string{"a", "b", "c", "d"}
	ok(t, l.Rewrite(list[:2]))
	ok(t, l.Append("e"))
	ok(t, l.Append("f"))
	if !slices.Equal(list, []string{"a", "b", "c", "d"}) {
		t.Error(list)
	}
	list[0], list[1], list[2] = "x", "y", "z"
	has(t, l, "a", "b", "e", "f")
	open(t, d, 0, "a", "b", "e", "f")
	d.Lose(1)
	fails(t, l.Rewrite(list[1:3]), api.ErrLost)
	list[1] = "w"
	has(t, l, "a", "b", "e", "f")
	// What lies beyond the length does not count, even if it is too long.
	list[3] = long(maxRow + 1)
	ok(t, l.Rewrite(list[:3]))
	has(t, l, "x", "w", "z")
	if !slices.Equal(list[:3], []string{"x", "w", "z"}) || len(list[3]) != maxRow+1 {
		t.Error("changed")
	}
}

// P10.6: a list that is returned is nobody else's.
func TestResults(t *testing.T) {
	_, l := filled(t, 0, "a", "b", "c")
	spoil := func(list []string) {
		for i := range list {
			list[i] = "spoilt"
		}
		list = append(list, "more", "and more")
		clear(list[:cap(list)])
	}
	other := l.All()
	spoil(l.All())
	has(t, l, "a", "b", "c")
	ok(t, l.Append("d"))
	full := l.All()
	spoil(l.All())
	ok(t, l.Append("e"))
	has(t, l, "a", "b", "c", "d", "e")
	ok(t, l.Rewrite(l.All()[3:]))
	spoil(l.All())
	has(t, l, "d", "e")
	rows := l.All()
	ok(t, l.Rewrite(rows))
	spoil(rows)
	has(t, l, "d", "e")
	if !slices.Equal(other, []string{"a", "b", "c"}) || !slices.Equal(full, []string{"a", "b", "c", "d"}) {
		t.Error(other, full)
	}
}

// survivors returns the rows of the log in the file 0 after the disk, which is down, is started.
func survivors(t *testing.T, d *disk.Disk) []string {
	t.Helper()
	c := d.Copy()
	c.Start()
	// Open fails as often as flushes are lost.
	l, e := wal.Open(c, 0)
	for e == api.ErrLost {
		l, e = wal.Open(c, 0)
	}
	ok(t, e)
	return l.All()
}

// history is a log with what the chapter says of its rows.
type history struct {
	d    *disk.Disk
	l    *wal.Log
	rows []string
	safe int // rows at the last Flush, Rewrite or Open that returned OK
}

// newHistory returns a log with a row.
func newHistory(t *testing.T) *history {
	d, l := filled(t, 0, "old")
	return &history{d, l, []string{"old"}, 1}
}

// step is a call: append of the one row, flush, rewrite of the rows, or lose.
type step struct {
	name string
	rows []string
}

// do makes a call, and returns its error.
func (h *history) do(s step) api.Errno {
	e := api.OK
	switch s.name {
	case "append":
		e = h.l.Append(s.rows[0])
		if e == api.OK {
			h.rows = append(h.rows, s.rows[0])
		}
	case "flush":
		e = h.l.Flush()
	case "rewrite":
		e = h.l.Rewrite(s.rows)
		if e == api.OK {
			h.rows = slices.Clone(s.rows)
		}
	case "lose":
		h.d.Lose(1)
		return api.OK
	}
	if e == api.OK && s.name != "append" {
		h.safe = len(h.rows)
	}
	return e
}

// mayLeave reports whether a crash during a call, or during none, may leave rows.
func (h *history) mayLeave(s step, rows []string) bool {
	switch s.name {
	case "append":
		if slices.Equal(rows, append(slices.Clone(h.rows), s.rows[0])) {
			return true
		}
	case "rewrite":
		if slices.Equal(rows, s.rows) {
			return true
		}
	}
	return len(rows) >= h.safe && len(rows) <= len(h.rows) && slices.Equal(rows, h.rows[:len(rows)])
}

// crashAt makes the calls of a list, while a crash is planned at the n-th call of the disk, and fails unless it leaves what it may. If there are fewer calls, it crashes the machine behind them, and returns false.
func crashAt(t *testing.T, list []step, n int, keep ...int) bool {
	t.Helper()
	h := newHistory(t)
	h.d.Arm(n, keep)
	for _, s := range list {
		e := h.do(s)
		if !h.d.Down() {
			continue
		}
		fails(t, e, api.ErrDown)
		h.check(t, s)
		return true
	}
	h.d.Crash(keep)
	h.check(t, step{})
	return false
}

// check fails unless the disk, which crashed during a call, or during none, leaves what it may, while the log that is still open shows what it did.
func (h *history) check(t *testing.T, s step) []string {
	t.Helper()
	has(t, h.l, h.rows...)
	rows := survivors(t, h.d)
	if !h.mayLeave(s, rows) {
		t.Fatalf("%v: %q of %q, %d of them safe", s, rows, h.rows, h.safe)
	}
	return rows
}

// steps are calls of a log.
func steps() []step {
	return []step{
		{"append", []string{"a"}},
		{"append", []string{""}},
		{"append", []string{"bcd"}},
		{"flush", nil},
		{"rewrite", nil},
		{"rewrite", []string{"x", ""}},
		{"lose", nil},
	}
}

// P10.7: a crash at each operation of a sequence, with every part of the bytes that were not flushed, leaves a log with the rows that it promises: here, after all short sequences.
func TestCrashShort(t *testing.T) {
	all := steps()
	size := len(all)
	for i := range size * size * size {
		list := []step{all[i%size], all[i/size%size], all[i/size/size]}
		for n, more := 1, true; more; n++ {
			more = crashAt(t, list, n)
			for k := range 24 {
				crashAt(t, list, n, k)
				crashAt(t, list, n, k, k%13)
				crashAt(t, list, n, 24-k, k%13)
			}
			crashAt(t, list, n, 0, 99)
			crashAt(t, list, n, math.MaxInt, math.MaxInt)
		}
	}
}

// P10.7: here, after long sequences, in which the log is opened again after each crash, which may also happen while it is opened.
func TestCrashLong(t *testing.T) {
	r := rand.New(rand.NewSource(7))
	all := steps()
	for range 300 {
		h := newHistory(t)
		for range 60 {
			if r.Intn(4) == 0 {
				h.d.Arm(1+r.Intn(6), []int{r.Intn(20), r.Intn(20)})
			}
			s := all[r.Intn(len(all))]
			e := h.do(s)
			if !h.d.Down() && r.Intn(9) == 0 {
				s = step{}
				h.d.Crash([]int{r.Intn(30), r.Intn(30)})
			} else if !h.d.Down() {
				continue
			} else {
				fails(t, e, api.ErrDown)
			}
			h.restart(t, r, h.check(t, s))
		}
	}
}

// restart starts the disk, perhaps several times, until the log is open; it must contain rows.
func (h *history) restart(t *testing.T, r *rand.Rand, rows []string) {
	t.Helper()
	for {
		h.d.Start()
		h.d.Arm(r.Intn(4), []int{r.Intn(20), r.Intn(20)})
		l, e := wal.Open(h.d, 0)
		if e == api.OK {
			has(t, l, rows...)
			h.l, h.rows, h.safe = l, rows, len(rows)
			return
		}
		if e != api.ErrLost {
			fails(t, e, api.ErrDown)
		}
	}
}

// P10.7: of what was not flushed, the rows remain whose records do; nothing of it remains if none of its bytes do.
func TestCrashKeeps(t *testing.T) {
	rows := []string{"a", "", "bcd", long(200), "e"}
	d, l := filled(t, 0, "first")
	text := joined("first")
	for _, row := range rows {
		ok(t, l.Append(row))
	}
	for kept := range len(joined(rows...)) + 2 {
		n := 0
		for n < len(rows) && len(joined(rows[:n+1]...)) <= kept {
			n++
		}
		c := crashed(d, kept)
		open(t, c, 0, append([]string{"first"}, rows[:n]...)...)
		holds(t, c, 0, text+joined(rows[:n]...), len(text+joined(rows[:n]...)))
		// They are durable once the log was opened.
		open(t, crashed(c), 0, append([]string{"first"}, rows[:n]...)...)
	}
}

// P10.8: the file after a Rewrite is that of a log to which the rows were appended one by one.
func TestRewriteFile(t *testing.T) {
	for _, rows := range append(sets(), []string{long(maxRow), "", long(maxRow - 1)}) {
		one, l := filled(t, 0)
		for _, row := range rows {
			ok(t, l.Append(row))
		}
		two, l := filled(t, 0, "a", "bcd")
		ok(t, l.Rewrite(rows))
		was, e := one.Read(0)
		ok(t, e)
		now, e := two.Read(0)
		ok(t, e)
		if was != now {
			t.Fatalf("%.40q: %.40q, %.40q", rows, was, now)
		}
	}
}

// P10.1 to P10.5: two logs on one disk do not affect each other.
func TestTwoLogs(t *testing.T) {
	d := disk.New()
	one, two := open(t, d, 0), open(t, d, 2)
	ok(t, one.Append("a"))
	ok(t, two.Append("b"))
	ok(t, two.Append("c"))
	has(t, one, "a")
	has(t, two, "b", "c")
	ok(t, one.Flush())
	open(t, crashed(d), 0, "a")
	open(t, crashed(d), 2)
	ok(t, two.Rewrite([]string{"d"}))
	ok(t, one.Append("e"))
	has(t, one, "a", "e")
	has(t, two, "d")
	holds(t, d, 0, joined("a", "e"), len(joined("a")))
	holds(t, d, 2, joined("d"), len(joined("d")))
	d.Lose(1)
	fails(t, one.Rewrite([]string{"f"}), api.ErrLost)
	ok(t, two.Rewrite([]string{"g", "h"}))
	holds(t, d, 1, record("f"), 0)
	open(t, d, 2, "g", "h")
	holds(t, d, 1, record("f"), 0)
	ok(t, one.Rewrite(nil))
	has(t, one)
	has(t, two, "g", "h")
	open(t, crashed(d), 0)
	open(t, crashed(d), 2, "g", "h")
}

// P10.1 to P10.3, P10.7: the examples of the chapter.
func TestExamples(t *testing.T) {
	d := disk.New()
	l := open(t, d, 0)
	ok(t, l.Append("a"))
	ok(t, l.Flush())
	ok(t, l.Append("b"))
	d.Crash(nil)
	d.Start()
	l = open(t, d, 0, "a")
	ok(t, l.Rewrite([]string{"x", ""}))
	d.Crash(nil)
	d.Start()
	open(t, d, 0, "x", "")
}

// model is a log that is written down as the chapter states it.
type model struct {
	d    *disk.Disk
	f    int
	rows []string
}

// cut truncates a file to n bytes if it is longer.
func cut(d *disk.Disk, f, n int) api.Errno {
	if d.Size(f) > n {
		return d.Cut(f, n)
	}
	return api.OK
}

// follow makes steps, and returns the error of the first one that fails.
func follow(list ...func() api.Errno) api.Errno {
	for _, do := range list {
		if e := do(); e != api.OK {
			return e
		}
	}
	return api.OK
}

func openModel(d *disk.Disk, f int) (*model, api.Errno) {
	text, e := d.Read(f)
	if e != api.OK {
		return nil, e
	}
	m := &model{d, f, validRows(text)}
	e = follow(
		func() api.Errno { return cut(d, f, len(joined(m.rows...))) },
		func() api.Errno { return cut(d, f+1, 0) },
		func() api.Errno { return d.Flush(f) },
	)
	if e != api.OK {
		return nil, e
	}
	return m, api.OK
}

func (m *model) Append(s string) api.Errno {
	if len(s) > maxRow {
		return api.ErrFull
	}
	e := m.d.Append(m.f, record(s))
	if e == api.OK {
		m.rows = append(m.rows, s)
	}
	return e
}

func (m *model) Flush() api.Errno { return m.d.Flush(m.f) }

func (m *model) Rewrite(rows []string) api.Errno {
	for _, s := range rows {
		if len(s) > maxRow {
			return api.ErrFull
		}
	}
	e := follow(
		func() api.Errno { return cut(m.d, m.f+1, 0) },
		func() api.Errno { return m.d.Append(m.f+1, joined(rows...)) },
		func() api.Errno { return m.d.Flush(m.f + 1) },
		func() api.Errno { return m.d.Turn(m.f, m.f+1) },
	)
	if e == api.OK {
		m.rows = slices.Clone(rows)
	}
	return e
}

// caller is what a log and its model have in common.
type caller interface {
	Append(s string) api.Errno
	Flush() api.Errno
	Rewrite(rows []string) api.Errno
}

// pair is a log with its model, each on a disk of its own; both are nil if no log is open.
type pair struct {
	d, e *disk.Disk
	f    int
	l    *wal.Log
	m    *model
}

// open opens both, and reports whether they are the same.
func (p *pair) open() bool {
	l, e := wal.Open(p.d, p.f)
	m, want := openModel(p.e, p.f)
	p.l, p.m = l, m
	return e == want && (l == nil) == (m == nil)
}

// equal reports whether nothing that can be seen of both differs.
func (p *pair) equal() bool {
	if p.d.Down() != p.e.Down() || files(p.d) != files(p.e) {
		return false
	}
	return p.l == nil || slices.Equal(p.l.All(), p.m.rows) && p.l.Len() == len(p.m.rows)
}

// both calls both logs, and reports whether the results are the same.
func (p *pair) both(do func(c caller) api.Errno) bool {
	return p.l == nil || do(p.l) == do(p.m)
}

// change makes a drawn call on both disks or both logs, and reports whether the results are the same.
func (p *pair) change(r *rand.Rand) bool {
	row := []string{"", "a", "bcd", record("e"), long(130), "\x00"}[r.Intn(6)]
	if r.Intn(40) == 0 {
		row = long(maxRow + 1)
	}
	n := r.Intn(6)
	keep := []int{r.Intn(30), r.Intn(30), r.Intn(30), r.Intn(30), r.Intn(30), r.Intn(30), r.Intn(30), r.Intn(30)}
	kind := r.Intn(14)
	for _, d := range []*disk.Disk{p.d, p.e} {
		switch kind {
		case 0:
			d.Lose(n / 2)
		case 1, 2:
			d.Arm(n, keep)
		case 3:
			d.Crash(keep)
		case 4, 5:
			// Bytes of others are there before the log is opened again.
			d.Start()
			d.Append(p.f, row[:min(n, len(row))])
			d.Append(p.f+1, row[:min(5-n, len(row))])
		case 6:
			d.Start()
		}
	}
	switch {
	case kind >= 3 && kind <= 7 && (kind != 3 || n == 0):
		return p.open()
	case kind >= 8 && kind <= 10:
		return p.both(func(c caller) api.Errno { return c.Append(row) })
	case kind == 11:
		return p.both(func(c caller) api.Errno { return c.Flush() })
	case kind >= 12:
		rows := slices.Repeat([]string{"w", row}, n/2)
		return p.both(func(c caller) api.Errno { return c.Rewrite(rows) })
	}
	return true
}

// P10.1 to P10.5: after every call of long sequences, which also crash, lose flushes and open the log again, the log and all files of its disk are those of the model.
func TestModel(t *testing.T) {
	for seed := range int64(300) {
		r := rand.New(rand.NewSource(seed))
		p := &pair{d: disk.New(), e: disk.New(), f: r.Intn(7)}
		if !p.open() {
			t.Fatal("open")
		}
		for i := range 100 {
			if !p.change(r) || !p.equal() {
				t.Fatalf("%d %d: %v, want %v", seed, i, files(p.d), files(p.e))
			}
		}
	}
}
