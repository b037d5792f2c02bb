package disk_test

import (
	"math"
	"math/rand"
	"slices"
	"strconv"
	"strings"
	"testing"

	"agora/api"
	"agora/disk"
)

// maxFile is the greatest length of a file.
const maxFile = 1 << 24

// wrongFiles are numbers that are no file numbers.
var wrongFiles = []int{-1, 8, -8, 9, math.MinInt, math.MaxInt, 1 << 32, 1<<32 + 7, 1 << 60}

// face is what a disk and its model have in common.
type face interface {
	Append(f int, s string) api.Errno
	Read(f int) (string, api.Errno)
	Size(f int) int
	Flush(f int) api.Errno
	Cut(f, n int) api.Errno
	Turn(f, g int) api.Errno
	Crash(keep []int)
	Lose(n int)
	Arm(n int, keep []int)
	Start()
	Down() bool
}

// part is a file of the model: its durable bytes, and the bytes after them.
type part struct{ safe, rest string }

func (p part) text() string { return p.safe + p.rest }

// model is a disk that is written down as the chapter states it.
type model struct {
	parts [8]part
	down  bool
	lost  int
	armed bool
	calls int // since Arm, while the machine was up
	last  int // the call at which the machine crashes
	keep  []int
}

func (m *model) copy() *model {
	c := *m
	return &c
}

func (m *model) Down() bool { return m.down }

func (m *model) Start() { m.down = false }

func (m *model) Lose(n int) {
	if n < 0 {
		n = 0
	}
	m.lost = n
}

func (m *model) Arm(n int, keep []int) {
	m.armed, m.calls, m.last, m.keep = n >= 1, 0, n, slices.Clone(keep)
}

func (m *model) Crash(keep []int) {
	if m.down {
		return
	}
	for f, p := range m.parts {
		n := 0
		if f < len(keep) && keep[f] > 0 {
			n = keep[f]
		}
		if n < len(p.rest) {
			p.rest = p.rest[:n]
		}
		m.parts[f] = part{safe: p.text()}
	}
	m.down, m.armed = true, false
}

// counted counts a call whose error would be e, and returns its error. It calls do only if the call has an effect.
func (m *model) counted(e api.Errno, isAppend bool, do func()) api.Errno {
	if m.down {
		return api.ErrDown
	}
	m.calls++
	crash := m.armed && m.calls == m.last
	if e == api.OK && (!crash || isAppend) {
		do()
	}
	if crash {
		m.Crash(m.keep)
		return api.ErrDown
	}
	return e
}

// wrong reports whether one of the numbers is no file number.
func wrong(files ...int) bool {
	return slices.ContainsFunc(files, func(f int) bool { return f < 0 || f > 7 })
}

func (m *model) Size(f int) int {
	if wrong(f) {
		return 0
	}
	return len(m.parts[f].text())
}

func (m *model) Read(f int) (string, api.Errno) {
	switch {
	case m.down:
		return "", api.ErrDown
	case wrong(f):
		return "", api.ErrArg
	}
	return m.parts[f].text(), api.OK
}

func (m *model) Append(f int, s string) api.Errno {
	e := api.OK
	switch {
	case wrong(f):
		e = api.ErrArg
	case m.Size(f)+len(s) > maxFile:
		e = api.ErrFull
	}
	return m.counted(e, true, func() { m.parts[f].rest += s })
}

func (m *model) Flush(f int) api.Errno {
	e := api.OK
	switch {
	case wrong(f):
		e = api.ErrArg
	case m.lost > 0:
		e = api.ErrLost
	}
	if m.counted(e, false, func() { m.parts[f] = part{safe: m.parts[f].text()} }) == api.ErrDown {
		return api.ErrDown
	}
	if e == api.ErrLost {
		m.lost--
	}
	return e
}

func (m *model) Cut(f, n int) api.Errno {
	e := api.OK
	if wrong(f) || n < 0 || n > m.Size(f) {
		e = api.ErrArg
	}
	return m.counted(e, false, func() {
		p := m.parts[f]
		if n <= len(p.safe) {
			m.parts[f] = part{safe: p.safe[:n]}
		} else {
			m.parts[f] = part{p.safe, p.rest[:n-len(p.safe)]}
		}
	})
}

func (m *model) Turn(f, g int) api.Errno {
	e := api.OK
	switch {
	case wrong(f, g) || f == g:
		e = api.ErrArg
	case m.parts[g].rest != "":
		e = api.ErrState
	}
	return m.counted(e, false, func() { m.parts[f], m.parts[g] = m.parts[g], part{} })
}

// call is a call of the method that is named, with as many of the arguments as it has.
type call struct {
	name string
	f, n int
	s    string
	keep []int
}

func (c call) String() string {
	list := []string{c.name, strconv.Itoa(c.f), strconv.Itoa(c.n), strconv.Quote(c.s)}
	for _, k := range c.keep {
		list = append(list, strconv.Itoa(k))
	}
	return strings.Join(list, " ")
}

// on makes the call, and returns its results.
func (c call) on(d face) (string, api.Errno) {
	switch c.name {
	case "Append":
		return "", d.Append(c.f, c.s)
	case "Read":
		return d.Read(c.f)
	case "Flush":
		return "", d.Flush(c.f)
	case "Cut":
		return "", d.Cut(c.f, c.n)
	case "Turn":
		return "", d.Turn(c.f, c.n)
	case "Crash":
		d.Crash(c.keep)
	case "Lose":
		d.Lose(c.n)
	case "Arm":
		d.Arm(c.n, c.keep)
	case "Start":
		d.Start()
	}
	return "", api.OK
}

// counts reports whether the call is one of those that a scheduled crash counts.
func (c call) counts() bool {
	return c.name == "Append" || c.name == "Flush" || c.name == "Cut" || c.name == "Turn"
}

// pair is a disk with its model.
type pair struct {
	d *disk.Disk
	m *model
}

func newPair() pair { return pair{disk.New(), &model{}} }

func (p pair) copy() pair { return pair{p.d.Copy(), p.m.copy()} }

// differs makes a call on both, and returns how they differ then; "" if they do not.
func (p pair) differs(c call) string {
	s, e := c.on(p.d)
	t, want := c.on(p.m)
	if e != want || s != t {
		return c.String() + ": " + strconv.Quote(s) + " " + e.Error() + ", want " + strconv.Quote(t) + " " + want.Error()
	}
	if diff := p.shows(); diff != "" {
		return c.String() + ": " + diff
	}
	return ""
}

// shows returns how what can be seen of both differs.
func (p pair) shows() string {
	if p.d.Down() != p.m.Down() {
		return "Down is " + strconv.FormatBool(p.d.Down())
	}
	for f := -1; f <= 8; f++ {
		s, e := p.d.Read(f)
		t, want := p.m.Read(f)
		if s != t || e != want || p.d.Size(f) != p.m.Size(f) {
			return "file " + strconv.Itoa(f) + " is " + strconv.Quote(s) + " " + e.Error() + ", want " + strconv.Quote(t) + " " + want.Error()
		}
	}
	return ""
}

// hides returns how what copies of both still do differs: how many flushes they lose, when and how they crash by themselves, and what they keep.
func (p pair) hides() string {
	start := call{name: "Start"}
	for _, list := range [][]call{
		{{name: "Crash"}, start},
		{start, {name: "Flush"}, {name: "Flush"}, {name: "Flush"}, {name: "Crash"}, start},
		{start, {name: "Append", f: 0, s: "01234"}, start, {name: "Append", f: 7, s: "56789"}, start, {name: "Cut", f: 9}, start, {name: "Turn", f: 0, n: 7}, start},
	} {
		x := p.copy()
		for _, c := range list {
			if diff := x.differs(c); diff != "" {
				return "then " + diff
			}
		}
	}
	return ""
}

// ok fails unless e is OK.
func ok(t *testing.T, e api.Errno) {
	t.Helper()
	fails(t, e, api.OK)
}

// fails fails unless e is want.
func fails(t *testing.T, e, want api.Errno) {
	t.Helper()
	if e != want {
		t.Fatal("error", e, "want", want)
	}
}

// has fails unless the file f, of a machine that is up, is want.
func has(t *testing.T, d *disk.Disk, f int, want string) {
	t.Helper()
	s, e := d.Read(f)
	if e != api.OK || s != want || d.Size(f) != len(want) {
		t.Fatalf("file %d: %q %v, size %d; want %q", f, s, e, d.Size(f), want)
	}
}

// fallen returns a copy of a disk whose machine crashed, keeping what keep says, and is up again.
func fallen(d *disk.Disk, keep ...int) *disk.Disk {
	c := d.Copy()
	c.Crash(keep)
	c.Start()
	return c
}

// holds fails unless the file f is text, of which the first safe bytes are durable.
func holds(t *testing.T, d *disk.Disk, f int, text string, safe int) {
	t.Helper()
	has(t, d, f, text)
	has(t, fallen(d), f, text[:safe])
}

// made returns a disk whose files contain texts, of which the first safe bytes each are durable.
func made(t *testing.T, safe int, texts ...string) *disk.Disk {
	t.Helper()
	d := disk.New()
	for f, s := range texts {
		n := min(safe, len(s))
		ok(t, d.Append(f, s[:n]))
		ok(t, d.Flush(f))
		ok(t, d.Append(f, s[n:]))
	}
	return d
}

// eight are texts for the eight files.
func eight() []string {
	var list []string
	for f := range 8 {
		list = append(list, strings.Repeat(strconv.Itoa(f), 6))
	}
	return list
}

// P9.1: a new disk is up, and its eight files are empty. It shares nothing with another new disk.
func TestNew(t *testing.T) {
	d, other := disk.New(), disk.New()
	if d.Down() {
		t.Error("down")
	}
	for f := range 8 {
		holds(t, d, f, "", 0)
		ok(t, d.Append(f, "abc"))
		ok(t, d.Flush(f))
		has(t, d, f, "abc")
		has(t, other, f, "")
	}
	other.Crash(nil)
	if d.Down() || !other.Down() {
		t.Error("a crash of another disk")
	}
}

// P9.1: Down follows crashes and Start.
func TestDown(t *testing.T) {
	d := disk.New()
	for range 2 {
		d.Crash(nil)
		if !d.Down() {
			t.Error("up after a crash")
		}
		d.Crash(nil)
		d.Arm(1, nil)
		d.Arm(0, nil)
		d.Lose(1)
		if !d.Down() {
			t.Error("up without Start")
		}
		d.Start()
		if d.Down() {
			t.Error("down after Start")
		}
		d.Start()
		if d.Down() {
			t.Error("down after a second Start")
		}
	}
}

// P9.1: Size is the length of a file, also of one that is not durable or whose machine is down, and 0 for other numbers.
func TestSize(t *testing.T) {
	d := disk.New()
	for f := range 8 {
		ok(t, d.Append(f, strings.Repeat("x", 3*f+2)))
		if f%2 == 0 {
			ok(t, d.Flush(f))
		}
	}
	for f := range 8 {
		if d.Size(f) != 3*f+2 {
			t.Error(f, d.Size(f))
		}
	}
	d.Crash([]int{0, 4, 0, 9, 0, 99})
	for f, want := range []int{2, 4, 8, 9, 14, 17, 20, 0} {
		if d.Size(f) != want {
			t.Error("down", f, d.Size(f))
		}
	}
	for _, f := range wrongFiles {
		if d.Size(f) != 0 {
			t.Error("down", f, d.Size(f))
		}
	}
	d.Start()
	for _, f := range wrongFiles {
		if d.Size(f) != 0 {
			t.Error(f, d.Size(f))
		}
	}
}

// P9.2: the files 0 and 7 exist, and every call with another number, -1 and 8 among them, returns ErrArg and changes nothing.
func TestFileNumbers(t *testing.T) {
	d := made(t, 4, eight()...)
	for _, f := range []int{0, 7} {
		has(t, d, f, strings.Repeat(strconv.Itoa(f), 6))
		ok(t, d.Append(f, "x"))
		ok(t, d.Cut(f, 6))
		ok(t, d.Flush(f))
	}
	ok(t, d.Turn(1, 0))
	ok(t, d.Turn(0, 7))
	ok(t, d.Turn(7, 1))
	ok(t, d.Turn(1, 0))
	has(t, d, 7, "000000")
	has(t, d, 1, "777777")
	ok(t, d.Append(6, "!"))
	d.Lose(1)
	for _, f := range wrongFiles {
		if s, e := d.Read(f); s != "" || e != api.ErrArg {
			t.Error("Read", f, s, e)
		}
		fails(t, d.Append(f, "x"), api.ErrArg)
		fails(t, d.Append(f, ""), api.ErrArg)
		fails(t, d.Flush(f), api.ErrArg)
		fails(t, d.Cut(f, 0), api.ErrArg)
		fails(t, d.Turn(f, f), api.ErrArg)
		for _, g := range []int{-1, 0, 1, 6, 7, 8} {
			fails(t, d.Turn(f, g), api.ErrArg)
			fails(t, d.Turn(g, f), api.ErrArg)
		}
	}
	for f, want := range []string{"", "777777", "222222", "333333", "444444", "555555", "666666!", "000000"} {
		has(t, d, f, want)
	}
	// A Flush of no file takes none of the lost flushes.
	fails(t, d.Flush(6), api.ErrLost)
	ok(t, d.Flush(6))
}

// P9.2: Append appends the bytes, whatever they are, to its file alone, and the durable prefix stays as it is.
func TestAppend(t *testing.T) {
	d := disk.New()
	ok(t, d.Append(3, ""))
	holds(t, d, 3, "", 0)
	ok(t, d.Append(3, "\x00\xff"))
	ok(t, d.Append(3, "é\n"))
	holds(t, d, 3, "\x00\xffé\n", 0)
	ok(t, d.Flush(3))
	ok(t, d.Append(3, ""))
	holds(t, d, 3, "\x00\xffé\n", 5)
	ok(t, d.Append(3, "ab"))
	ok(t, d.Append(3, "c"))
	holds(t, d, 3, "\x00\xffé\nabc", 5)
	for f := range 8 {
		if f != 3 {
			has(t, d, f, "")
		}
	}
}

// P9.2: a file has at most 2^24 bytes, whatever the pieces it is made of; an Append of more changes nothing. Each file has a limit of its own.
func TestFull(t *testing.T) {
	d := disk.New()
	long := strings.Repeat("x", maxFile+1)
	fails(t, d.Append(0, long), api.ErrFull)
	fails(t, d.Append(0, long+long), api.ErrFull)
	has(t, d, 0, "")
	ok(t, d.Append(0, long[1:]))
	for range 256 {
		ok(t, d.Append(7, long[:maxFile/256]))
	}
	for _, f := range []int{0, 7} {
		fails(t, d.Append(f, "y"), api.ErrFull)
		ok(t, d.Append(f, ""))
		has(t, d, f, long[1:])
	}
	ok(t, d.Cut(7, maxFile-2))
	ok(t, d.Flush(7))
	fails(t, d.Append(7, "abc"), api.ErrFull)
	holds(t, d, 7, long[3:], maxFile-2)
	ok(t, d.Append(7, "a"))
	fails(t, d.Append(7, "bc"), api.ErrFull)
	ok(t, d.Append(7, "b"))
	fails(t, d.Append(7, "c"), api.ErrFull)
	holds(t, d, 7, long[3:]+"ab", maxFile-2)
	ok(t, d.Append(1, "z"))
	ok(t, d.Flush(7))
	ok(t, d.Turn(6, 7))
	fails(t, d.Append(6, "c"), api.ErrFull)
	ok(t, d.Append(7, long[1:]))
}

// P9.2: Read returns the bytes of the file, also those that are not durable, and has no effect.
func TestRead(t *testing.T) {
	d := made(t, 4, eight()...)
	for range 2 {
		for f, want := range eight() {
			holds(t, d, f, want, 4)
		}
	}
}

// P9.2: Flush makes its file durable, and no other one.
func TestFlush(t *testing.T) {
	d := made(t, 2, "abcd", "efgh")
	ok(t, d.Flush(1))
	holds(t, d, 0, "abcd", 2)
	holds(t, d, 1, "efgh", 4)
	ok(t, d.Flush(1))
	ok(t, d.Flush(2))
	holds(t, d, 1, "efgh", 4)
	holds(t, d, 2, "", 0)
	ok(t, d.Append(1, "i"))
	holds(t, d, 1, "efghi", 4)
	ok(t, d.Flush(1))
	holds(t, d, 1, "efghi", 5)
}

// P9.2: Cut to less than the durable prefix, to exactly it, to more, and to Size.
func TestCut(t *testing.T) {
	const text = "abcdefgh"
	for n := range len(text) + 1 {
		d := made(t, 5, "", text, text)
		ok(t, d.Cut(1, n))
		safe := min(n, 5)
		holds(t, d, 1, text[:n], safe)
		holds(t, d, 2, text, 5)
		// What is appended instead of the bytes that were cut is not durable, although those may have been.
		ok(t, d.Append(1, "XYZ"))
		holds(t, d, 1, text[:n]+"XYZ", safe)
		has(t, fallen(d, 0, n-safe+2), 1, text[:n]+"XY")
	}
}

// P9.2: Cut to a negative length or to one beyond Size returns ErrArg and changes nothing.
func TestCutFails(t *testing.T) {
	d := made(t, 2, "abcd")
	for _, n := range []int{-1, 5, 6, math.MinInt, math.MaxInt, 1 << 32, -4} {
		fails(t, d.Cut(0, n), api.ErrArg)
		holds(t, d, 0, "abcd", 2)
	}
	fails(t, d.Cut(1, 1), api.ErrArg)
	ok(t, d.Cut(1, 0))
	ok(t, d.Cut(0, 0))
	fails(t, d.Cut(0, 1), api.ErrArg)
	holds(t, d, 0, "", 0)
}

// P9.2: Turn replaces a file by another one, whatever is durable of the replaced one, and empties the other one, durably.
func TestTurn(t *testing.T) {
	for safe := range 4 {
		d := made(t, safe, "old", "new", "more")
		ok(t, d.Flush(1))
		ok(t, d.Turn(0, 1))
		holds(t, d, 0, "new", 3)
		holds(t, d, 1, "", 0)
		holds(t, d, 2, "more", safe)
		// The files do not stay connected.
		ok(t, d.Append(1, "xyz"))
		ok(t, d.Append(0, "er"))
		holds(t, d, 0, "newer", 3)
		holds(t, d, 1, "xyz", 0)
	}
	d := made(t, 9, "old", "new")
	ok(t, d.Turn(1, 0))
	holds(t, d, 1, "old", 3)
	holds(t, d, 0, "", 0)
	// The empty file is entirely durable.
	ok(t, d.Append(1, "er"))
	ok(t, d.Turn(1, 0))
	holds(t, d, 1, "", 0)
	holds(t, d, 0, "", 0)
	ok(t, d.Turn(1, 0))
	ok(t, d.Append(0, "a"))
	ok(t, d.Cut(0, 0))
	ok(t, d.Turn(1, 0))
}

// P9.2: Turn of a file with itself, also of one that is empty or not durable, is ErrArg; of a file that is not entirely durable, ErrState. Neither changes anything.
func TestTurnFails(t *testing.T) {
	d := made(t, 2, "ab", "abc")
	for f := range 8 {
		fails(t, d.Turn(f, f), api.ErrArg)
	}
	fails(t, d.Turn(0, 1), api.ErrState)
	fails(t, d.Turn(5, 1), api.ErrState)
	holds(t, d, 0, "ab", 2)
	holds(t, d, 1, "abc", 2)
	fails(t, d.Turn(8, 1), api.ErrArg)
	// A crash or a Cut makes it durable.
	c := fallen(d, 0, 1)
	ok(t, c.Turn(0, 1))
	has(t, c, 0, "abc")
	ok(t, d.Cut(1, 2))
	ok(t, d.Turn(0, 1))
	has(t, d, 0, "ab")
}

// P9.2: on a machine that is down, every call returns ErrDown, also with wrong arguments, and changes nothing.
func TestCallsDown(t *testing.T) {
	d := made(t, 9, eight()...)
	ok(t, d.Append(1, "!"))
	d.Lose(1)
	d.Crash([]int{0, 1})
	long := strings.Repeat("x", maxFile+1)
	for _, f := range append([]int{0, 1, 7}, wrongFiles...) {
		if s, e := d.Read(f); s != "" || e != api.ErrDown {
			t.Error("Read", f, s, e)
		}
		fails(t, d.Append(f, ""), api.ErrDown)
		fails(t, d.Append(f, "x"), api.ErrDown)
		fails(t, d.Append(f, long), api.ErrDown)
		fails(t, d.Flush(f), api.ErrDown)
		for _, n := range []int{-1, 0, 6, 8, math.MaxInt} {
			fails(t, d.Cut(f, n), api.ErrDown)
			fails(t, d.Turn(f, n), api.ErrDown)
			fails(t, d.Turn(n, f), api.ErrDown)
		}
		fails(t, d.Turn(f, f), api.ErrDown)
	}
	d.Start()
	for f, want := range eight() {
		if f == 1 {
			want += "!"
		}
		holds(t, d, f, want, len(want))
	}
	fails(t, d.Flush(0), api.ErrLost)
	ok(t, d.Flush(0))
}

// P9.3: as many flushes are lost as Lose says, of whatever files, and they leave the files unchanged.
func TestLose(t *testing.T) {
	d := made(t, 1, "abc", "def")
	d.Lose(3)
	for _, f := range []int{0, 1, 5} {
		fails(t, d.Flush(f), api.ErrLost)
		holds(t, d, 0, "abc", 1)
		holds(t, d, 1, "def", 1)
	}
	ok(t, d.Flush(0))
	holds(t, d, 0, "abc", 3)
	holds(t, d, 1, "def", 1)
	// Another Lose replaces the number, and does not add to it.
	for _, c := range []struct{ first, second, lost int }{{5, 2, 2}, {2, 5, 5}, {3, 0, 0}, {3, -1, 0}, {3, math.MinInt, 0}, {-2, 1, 1}, {0, 1, 1}, {math.MaxInt, 1, 1}} {
		d.Lose(c.first)
		d.Lose(c.second)
		for range c.lost {
			fails(t, d.Flush(1), api.ErrLost)
		}
		ok(t, d.Flush(1))
	}
	d.Lose(math.MaxInt)
	fails(t, d.Flush(1), api.ErrLost)
	// The other calls do not need a flush.
	ok(t, d.Turn(0, 1))
	ok(t, d.Append(0, "x"))
	ok(t, d.Cut(0, 3))
	holds(t, d, 0, "def", 3)
}

// P9.3: lost flushes are pending across a crash and a Start, and can be set while the machine is down.
func TestLoseCrash(t *testing.T) {
	d := made(t, 0, "abc")
	d.Lose(2)
	d.Crash([]int{2})
	fails(t, d.Flush(0), api.ErrDown)
	d.Start()
	fails(t, d.Flush(0), api.ErrLost)
	d.Arm(1, nil)
	fails(t, d.Flush(0), api.ErrDown)
	d.Start()
	fails(t, d.Flush(0), api.ErrLost)
	ok(t, d.Flush(0))
	d.Crash(nil)
	d.Lose(1)
	d.Start()
	fails(t, d.Flush(0), api.ErrLost)
	ok(t, d.Flush(0))
	d.Lose(1)
	d.Crash(nil)
	d.Lose(-1)
	d.Start()
	ok(t, d.Flush(0))
}

// P9.3: the example of the chapter.
func TestExample(t *testing.T) {
	d := disk.New()
	ok(t, d.Append(0, "12345"))
	ok(t, d.Flush(0))
	ok(t, d.Append(0, "678"))
	d.Crash([]int{1})
	if d.Size(0) != 6 {
		t.Error(d.Size(0))
	}
	d.Start()
	has(t, d, 0, "123456")
}

// crashes are lists for Crash and Arm, with what remains of files of 6 bytes of which 2 are durable.
func crashes() []struct {
	keep []int
	left [8]int
} {
	return []struct {
		keep []int
		left [8]int
	}{
		{nil, [8]int{2, 2, 2, 2, 2, 2, 2, 2}},
		{[]int{}, [8]int{2, 2, 2, 2, 2, 2, 2, 2}},
		{[]int{1}, [8]int{3, 2, 2, 2, 2, 2, 2, 2}},
		{[]int{0, 1, 2}, [8]int{2, 3, 4, 2, 2, 2, 2, 2}},
		{[]int{0, 1, 2, 3, 4, 5, 6, 7}, [8]int{2, 3, 4, 5, 6, 6, 6, 6}},
		{[]int{0, 0, 0, 0, 0, 0, 0, 3, 4, -1, 9}, [8]int{2, 2, 2, 2, 2, 2, 2, 5}},
		{[]int{-1, 1, -2, math.MinInt, 4, -4, -6, 4}, [8]int{2, 3, 2, 2, 6, 2, 2, 6}},
		{[]int{math.MaxInt, math.MaxInt - 1, math.MaxInt - 2, 1 << 62, 1 << 32, 1<<32 + 1, maxFile, 5}, [8]int{6, 6, 6, 6, 6, 6, 6, 6}},
	}
}

// P9.3: a crash leaves of each file its durable prefix and at most the given number of bytes after it, durably; lists may be missing, short, long, or have negative or great numbers.
func TestCrash(t *testing.T) {
	for i, c := range crashes() {
		d := made(t, 2, eight()...)
		keep := slices.Clone(c.keep)
		d.Crash(keep)
		if !d.Down() || !slices.Equal(keep, c.keep) {
			t.Error(i, d.Down(), keep)
		}
		for f, n := range c.left {
			if d.Size(f) != n {
				t.Error(i, f, d.Size(f))
			}
		}
		d.Start()
		for f, n := range c.left {
			holds(t, d, f, eight()[f][:n], n)
		}
	}
}

// P9.3: a crash of a machine that is down does nothing, and one after Start is a crash again.
func TestCrashDown(t *testing.T) {
	d := made(t, 2, "abcdef", "uvwxyz")
	d.Crash([]int{2, 9})
	d.Crash(nil)
	d.Crash([]int{9, 9, 9, 9, 9, 9, 9, 9})
	if !d.Down() {
		t.Error("up")
	}
	d.Start()
	holds(t, d, 0, "abcd", 4)
	holds(t, d, 1, "uvwxyz", 6)
	ok(t, d.Append(0, "GH"))
	d.Start()
	has(t, d, 0, "abcdGH")
	d.Crash([]int{1})
	d.Start()
	holds(t, d, 0, "abcdG", 5)
}

// P9.4: the n-th call is not performed, whichever it is, but for an Append, whose bytes come before the crash.
func TestArmCalls(t *testing.T) {
	for _, c := range []struct {
		call call
		keep []int
		want [3]string
	}{
		{call{name: "Append", f: 0, s: "XYZ"}, nil, [3]string{"ab", "ef", "ij"}},
		{call{name: "Append", f: 0, s: "XYZ"}, []int{2, 1}, [3]string{"abcd", "efg", "ij"}},
		{call{name: "Append", f: 0, s: "XYZ"}, []int{4, -1, 2}, [3]string{"abcdXY", "ef", "ij"}},
		{call{name: "Append", f: 0, s: "XYZ"}, []int{99}, [3]string{"abcdXYZ", "ef", "ij"}},
		{call{name: "Append", f: 2, s: "XYZ"}, []int{9, 9, 1}, [3]string{"abcd", "efgh", "ijX"}},
		{call{name: "Append", f: 0, s: ""}, []int{1}, [3]string{"abc", "ef", "ij"}},
		{call{name: "Flush", f: 0}, nil, [3]string{"ab", "ef", "ij"}},
		{call{name: "Flush", f: 0}, []int{1, 1}, [3]string{"abc", "efg", "ij"}},
		{call{name: "Cut", f: 0, n: 1}, nil, [3]string{"ab", "ef", "ij"}},
		{call{name: "Cut", f: 0, n: 0}, []int{9, 1}, [3]string{"abcd", "efg", "ij"}},
		{call{name: "Turn", f: 0, n: 2}, []int{1, 1, 1}, [3]string{"abc", "efg", "ij"}},
		{call{name: "Turn", f: 2, n: 0}, []int{9, 9, 9}, [3]string{"abcd", "efgh", "ij"}},
	} {
		for n := 1; n <= 4; n++ {
			d := made(t, 2, "abcd", "efgh", "ij")
			d.Arm(n, c.keep)
			for range n - 1 {
				ok(t, d.Append(5, ""))
			}
			if d.Down() {
				t.Error(c.call, n, "down too early")
			}
			if _, e := c.call.on(d); e != api.ErrDown || !d.Down() {
				t.Error(c.call, n, e)
			}
			d.Start()
			for f, want := range c.want {
				holds(t, d, f, want, len(want))
			}
		}
	}
}

// P9.4: the crash at a call is like a call of Crash with the list.
func TestArmLists(t *testing.T) {
	for i, c := range crashes() {
		d := made(t, 2, eight()...)
		d.Arm(1, c.keep)
		fails(t, d.Flush(5), api.ErrDown)
		for f, n := range c.left {
			if d.Size(f) != n {
				t.Error(i, f, d.Size(f))
			}
		}
		d.Start()
		for f, n := range c.left {
			holds(t, d, f, eight()[f][:n], n)
		}
	}
}

// wrongCalls are calls that return an error on the disk that a test of them makes.
func wrongCalls() []call {
	return []call{
		{name: "Append", f: -1, s: "x"},
		{name: "Append", f: 8},
		{name: "Append", f: 0, s: strings.Repeat("x", maxFile-3)},
		{name: "Flush", f: 8},
		{name: "Flush", f: -1},
		{name: "Cut", f: 8},
		{name: "Cut", f: 0, n: -1},
		{name: "Cut", f: 0, n: 5},
		{name: "Turn", f: 0, n: 8},
		{name: "Turn", f: -1, n: 0},
		{name: "Turn", f: 0, n: 0},
		{name: "Turn", f: 1, n: 0},
	}
}

// P9.4: calls that return an error are counted, and if one of them is the n-th, the machine crashes, the call returns ErrDown, and it has no other effect.
func TestArmErrors(t *testing.T) {
	for _, c := range wrongCalls() {
		d := made(t, 2, "abcd")
		_, e := c.on(d)
		if e == api.OK || e == api.ErrDown {
			t.Fatal(c.name, c.f, c.n, e)
		}
		d.Arm(3, []int{1})
		for range 2 {
			if _, again := c.on(d); again != e {
				t.Error(c.name, c.f, c.n, again)
			}
		}
		holds(t, d, 0, "abcd", 2)
		if _, e := c.on(d); e != api.ErrDown || !d.Down() {
			t.Error(c.name, c.f, c.n, e)
		}
		d.Start()
		holds(t, d, 0, "abc", 3)
		for range 9 {
			ok(t, d.Append(1, ""))
		}
	}
}

// P9.4: a lost flush is counted like any other; the one at which the machine crashes is not performed, and so stays pending.
func TestArmLost(t *testing.T) {
	d := made(t, 2, "abcd")
	d.Lose(2)
	d.Arm(2, []int{1})
	fails(t, d.Flush(0), api.ErrLost)
	fails(t, d.Flush(0), api.ErrDown)
	d.Start()
	holds(t, d, 0, "abc", 3)
	fails(t, d.Flush(0), api.ErrLost)
	ok(t, d.Flush(0))
}

// P9.4: only Append, Flush, Cut and Turn are counted, and only on a machine that is up.
func TestArmCounts(t *testing.T) {
	d := made(t, 2, "abcd")
	d.Crash(nil)
	d.Arm(4, []int{0, 2})
	for range 9 {
		d.Append(0, "x")
		d.Flush(0)
		d.Cut(0, 0)
		d.Turn(0, 1)
		d.Crash(nil)
	}
	d.Start()
	for range 9 {
		has(t, d, 0, "ab")
		d.Read(9)
		d.Lose(0)
		d.Start()
		d.Copy().Flush(0)
	}
	ok(t, d.Append(1, "abcd"))
	ok(t, d.Cut(0, 1))
	ok(t, d.Turn(0, 2))
	fails(t, d.Flush(1), api.ErrDown)
	d.Start()
	has(t, d, 0, "")
	has(t, d, 1, "ab")
}

// P9.4: if n is less than 1, no crash is scheduled, and one that was is not any more.
func TestArmNone(t *testing.T) {
	for _, n := range []int{0, -1, -2, math.MinInt} {
		for _, before := range []int{0, 1, 2, 5, math.MaxInt} {
			d := made(t, 2, "abcd")
			d.Arm(before, []int{9})
			d.Arm(n, nil)
			for range 9 {
				ok(t, d.Append(0, "x"))
				ok(t, d.Cut(0, 4))
				ok(t, d.Turn(1, 2))
			}
			holds(t, d, 0, "abcd", 2)
		}
	}
}

// P9.4: another Arm replaces the number and the list, and the calls are counted anew.
func TestArmAgain(t *testing.T) {
	for _, c := range []struct{ first, second int }{{1, 1}, {1, 3}, {3, 1}, {2, 2}, {3, 3}, {math.MaxInt, 2}, {0, 2}, {-1, 1}} {
		d := made(t, 0, "abcd", "efgh")
		d.Arm(c.first, []int{4, 4})
		if c.first > 1 {
			ok(t, d.Append(7, "x"))
		}
		d.Arm(c.second, []int{0, 3})
		for range c.second - 1 {
			ok(t, d.Append(7, "x"))
		}
		fails(t, d.Append(7, "x"), api.ErrDown)
		d.Start()
		has(t, d, 0, "")
		has(t, d, 1, "efg")
	}
	d := disk.New()
	d.Arm(math.MaxInt, nil)
	for range 99 {
		ok(t, d.Append(0, "x"))
	}
}

// P9.4: the schedule is over after its crash and after a crash before it.
func TestArmOnce(t *testing.T) {
	d := made(t, 0, "abcd")
	d.Arm(1, []int{2})
	fails(t, d.Flush(0), api.ErrDown)
	d.Start()
	for range 9 {
		ok(t, d.Append(0, "x"))
	}
	holds(t, d, 0, "abxxxxxxxxx", 2)
	for n := 1; n < 4; n++ {
		d = made(t, 0, "abcd")
		d.Arm(n, []int{2})
		for range n - 1 {
			ok(t, d.Append(1, ""))
		}
		d.Crash([]int{3})
		d.Crash(nil)
		d.Start()
		for range 9 {
			ok(t, d.Append(0, "x"))
		}
		holds(t, d, 0, "abcxxxxxxxxx", 3)
	}
}

// P9.4: Arm of a machine that is down counts from the next Start on; a Crash before it changes nothing, and one after it ends the schedule.
func TestArmDown(t *testing.T) {
	for n := 1; n < 4; n++ {
		for _, crash := range []bool{false, true} {
			d := made(t, 2, "abcd")
			d.Crash(nil)
			d.Arm(9, nil)
			d.Arm(n, []int{1})
			if crash {
				d.Crash([]int{9})
			}
			fails(t, d.Append(0, "x"), api.ErrDown)
			d.Start()
			for range n - 1 {
				ok(t, d.Append(0, ""))
			}
			fails(t, d.Append(0, "cd"), api.ErrDown)
			d.Start()
			holds(t, d, 0, "abc", 3)
			ok(t, d.Append(0, "d"))
		}
	}
	d := disk.New()
	d.Crash(nil)
	d.Arm(1, nil)
	d.Start()
	d.Crash(nil)
	d.Start()
	ok(t, d.Append(0, "x"))
	d.Crash(nil)
	d.Arm(1, nil)
	d.Arm(0, nil)
	d.Start()
	ok(t, d.Append(0, "x"))
}

// P9.1: a copy has the files with their durable prefixes, and each side goes on by itself.
func TestCopyFiles(t *testing.T) {
	d := made(t, 3, "abcdef", "uvwxyz")
	c := d.Copy()
	ok(t, d.Append(0, "g"))
	ok(t, c.Append(0, "hi"))
	holds(t, d, 0, "abcdefg", 3)
	holds(t, c, 0, "abcdefhi", 3)
	// The copy of a file that was cut does not share what is appended instead.
	ok(t, d.Cut(0, 1))
	x := d.Copy()
	ok(t, d.Append(0, "DDDD"))
	ok(t, x.Append(0, "XXX"))
	holds(t, d, 0, "aDDDD", 1)
	holds(t, x, 0, "aXXX", 1)
	holds(t, c, 0, "abcdefhi", 3)
	ok(t, d.Flush(1))
	holds(t, c, 1, "uvwxyz", 3)
	ok(t, d.Turn(0, 1))
	has(t, c, 1, "uvwxyz")
	has(t, x, 1, "uvwxyz")
	c.Crash(nil)
	if d.Down() || x.Down() || !c.Down() || !c.Copy().Down() {
		t.Error("a crash of a copy")
	}
	y := c.Copy()
	y.Start()
	if !c.Down() || y.Down() {
		t.Error("a start of a copy")
	}
	has(t, y, 0, "abc")
}

// P9.1: a copy has the pending lost flushes and the scheduled crash, and each side goes on by itself.
func TestCopyState(t *testing.T) {
	d := made(t, 2, "abcdef")
	d.Lose(2)
	fails(t, d.Flush(0), api.ErrLost)
	d.Arm(4, []int{2})
	fails(t, d.Append(8, ""), api.ErrArg)
	c, armed, lost := d.Copy(), d.Copy(), d.Copy()
	armed.Arm(1, []int{4})
	lost.Lose(7)
	for _, x := range []*disk.Disk{d, c} {
		fails(t, x.Flush(0), api.ErrLost)
		ok(t, x.Append(0, "gh"))
		fails(t, x.Flush(0), api.ErrDown)
		x.Start()
		holds(t, x, 0, "abcd", 4)
		ok(t, x.Flush(0))
	}
	fails(t, armed.Append(0, ""), api.ErrDown)
	armed.Start()
	holds(t, armed, 0, "abcdef", 6)
	fails(t, armed.Flush(0), api.ErrLost)
	ok(t, armed.Flush(0))
	fails(t, lost.Flush(0), api.ErrLost)
	fails(t, lost.Flush(0), api.ErrLost)
	fails(t, lost.Flush(0), api.ErrDown)
	lost.Start()
	holds(t, lost, 0, "abcd", 4)
	fails(t, lost.Flush(0), api.ErrLost)
	d = made(t, 2, "abcdef")
	d.Crash(nil)
	d.Arm(1, nil)
	c = d.Copy()
	d.Arm(0, nil)
	d.Start()
	ok(t, d.Flush(0))
	c.Start()
	fails(t, c.Flush(0), api.ErrDown)
}

// P3: Crash and Arm neither change a list nor look behind its end, and a later change of it has no effect.
func TestLists(t *testing.T) {
	all := []int{1, 2, 3, 4, 5, 6, 7, 8, 9}
	before := slices.Clone(all)
	d := made(t, 2, eight()...)
	c := d.Copy()
	d.Arm(2, all[:2])
	ok(t, d.Append(0, ""))
	x := d.Copy()
	c.Crash(all[:2])
	if !slices.Equal(all, before) {
		t.Error(all)
	}
	for i := range all {
		all[i] = 0
	}
	changed := slices.Clone(all)
	fails(t, d.Flush(5), api.ErrDown)
	fails(t, x.Flush(5), api.ErrDown)
	if !slices.Equal(all, changed) {
		t.Error(all)
	}
	for _, y := range []*disk.Disk{d, c, x} {
		y.Start()
		has(t, y, 0, "000")
		has(t, y, 1, "1111")
		has(t, y, 2, "22")
	}
}

// P3: what Read returned stays as it is, whatever happens to the file.
func TestResults(t *testing.T) {
	d := made(t, 2, "abcdef")
	s, e := d.Read(0)
	ok(t, e)
	ok(t, d.Cut(0, 1))
	ok(t, d.Append(0, "XYZ"))
	r, e := d.Read(0)
	ok(t, e)
	d.Crash(nil)
	d.Start()
	ok(t, d.Append(0, "123456789"))
	if s != "abcdef" || r != "aXYZ" {
		t.Error(s, r)
	}
}

// few are calls of every kind, with edges, for all sequences of them.
func few() []call {
	return []call{
		{name: "Append", f: 0, s: "ab"},
		{name: "Append", f: 7, s: "xyz"},
		{name: "Append", f: 8, s: "x"},
		{name: "Flush", f: 0},
		{name: "Flush", f: 7},
		{name: "Flush", f: -1},
		{name: "Cut", f: 0, n: 1},
		{name: "Cut", f: 0, n: 3},
		{name: "Cut", f: 7, n: -1},
		{name: "Turn", f: 0, n: 7},
		{name: "Turn", f: 7, n: 0},
		{name: "Turn", f: 7, n: 7},
		{name: "Lose", n: 1},
		{name: "Lose", n: -1},
		{name: "Crash"},
		{name: "Crash", keep: []int{1, 0, 0, 0, 0, 0, 0, 2}},
		{name: "Arm", n: 1, keep: []int{1}},
		{name: "Arm", n: 2},
		{name: "Arm", n: 0},
		{name: "Start"},
	}
}

// P9.1, P9.2, P9.3, P9.4: after all short sequences of calls, the disk does what the chapter defines. Every sequence goes on from a copy of a shorter one.
func TestSequences(t *testing.T) {
	var from func(p pair, done []call, left int)
	from = func(p pair, done []call, left int) {
		if left == 0 {
			if diff := p.hides(); diff != "" {
				t.Fatal(done, diff)
			}
			return
		}
		for _, c := range few() {
			x, now := p.copy(), append(done[:len(done):len(done)], c)
			if diff := x.differs(c); diff != "" {
				t.Fatal(done, diff)
			}
			from(x, now, left-1)
		}
		if diff := p.shows(); diff != "" {
			t.Fatal(done, "after calls on copies:", diff)
		}
	}
	from(newPair(), nil, 3)
}

// drawFile returns a file number, mostly one of few, and sometimes a wrong one.
func drawFile(r *rand.Rand) int {
	switch r.Intn(12) {
	case 0:
		return wrongFiles[r.Intn(len(wrongFiles))]
	case 1, 2, 3:
		return r.Intn(8)
	}
	return 7 * r.Intn(2)
}

// drawKeep returns a list for Crash or Arm.
func drawKeep(r *rand.Rand) []int {
	list := make([]int, r.Intn(11))
	for f := range list {
		switch r.Intn(8) {
		case 0:
			list[f] = math.MaxInt - r.Intn(9)
		case 1:
			list[f] = math.MinInt + r.Intn(9)
		default:
			list[f] = r.Intn(12) - 2
		}
	}
	return list
}

// draw returns a call for a disk.
func draw(r *rand.Rand, d *disk.Disk) call {
	f := drawFile(r)
	switch r.Intn(16) {
	case 0, 1, 2, 3:
		return call{name: "Append", f: f, s: strconv.Itoa(r.Int())[:r.Intn(6)]}
	case 4, 5:
		return call{name: "Flush", f: f}
	case 6, 7:
		return call{name: "Cut", f: f, n: d.Size(f) - r.Intn(6) + 1}
	case 8, 9:
		return call{name: "Turn", f: f, n: drawFile(r)}
	case 10:
		return call{name: "Crash", keep: drawKeep(r)}
	case 11:
		return call{name: "Lose", n: r.Intn(5) - 1}
	case 12:
		return call{name: "Arm", n: r.Intn(7) - 1, keep: drawKeep(r)}
	case 13:
		return call{name: "Read", f: f}
	}
	return call{name: "Start"}
}

// P9.1, P9.2, P9.3, P9.4: after long sequences of calls on disks that are copied from each other, each disk does what the chapter defines.
func TestModel(t *testing.T) {
	for seed := range int64(60) {
		r := rand.New(rand.NewSource(seed))
		pairs := []pair{newPair(), newPair(), newPair()}
		for i := range 1000 {
			p := pairs[r.Intn(3)]
			c := draw(r, p.d)
			if diff := p.differs(c); diff != "" {
				t.Fatal(seed, i, diff)
			}
			if diff := p.hides(); diff != "" {
				t.Fatal(seed, i, c, diff)
			}
			for _, other := range pairs {
				if diff := other.shows(); diff != "" {
					t.Fatal(seed, i, c, "on another disk:", diff)
				}
			}
			if r.Intn(20) == 0 {
				pairs[r.Intn(3)] = p.copy()
			}
		}
	}
}

// texts returns the files of a machine that is up.
func texts(t *testing.T, d *disk.Disk) [8]string {
	t.Helper()
	var list [8]string
	for f := range list {
		s, e := d.Read(f)
		ok(t, e)
		list[f] = s
	}
	return list
}

// P9.5: after every crash, each file starts with what was durable before, and is a prefix of what it contained.
func TestAfterCrash(t *testing.T) {
	for seed := range int64(60) {
		r := rand.New(rand.NewSource(seed))
		d := disk.New()
		var safe [8]string
		for i := range 1000 {
			was := texts(t, d)
			c := draw(r, d)
			_, e := c.on(d)
			if d.Down() {
				if c.name == "Append" && !wrong(c.f) {
					was[c.f] += c.s
				}
				d.Start()
				now := texts(t, d)
				for f, s := range now {
					if !strings.HasPrefix(s, safe[f]) || !strings.HasPrefix(was[f], s) {
						t.Fatal(seed, i, c, f, safe[f], s, was[f])
					}
				}
				safe = now
			} else if c.counts() && e == api.OK {
				switch c.name {
				case "Flush":
					safe[c.f] = was[c.f]
				case "Cut":
					safe[c.f] = safe[c.f][:min(c.n, len(safe[c.f]))]
				case "Turn":
					safe[c.f], safe[c.n] = was[c.n], ""
				}
			}
		}
	}
}

// P9.5: a crash at a Turn, or after it, leaves both files as they were before it or as they are after it, whatever it keeps.
func TestTurnCrash(t *testing.T) {
	r := rand.New(rand.NewSource(9))
	for range 300 {
		d := made(t, 2, "oldest", "new", "other")
		ok(t, d.Flush(1))
		keep := drawKeep(r)
		c := fallen(d, keep...)
		before := texts(t, c)
		d.Arm(1+r.Intn(2), keep)
		e := d.Turn(0, 1)
		if e == api.OK {
			before[0], before[1] = "new", ""
			fails(t, d.Turn(0, 1), api.ErrDown)
		} else {
			fails(t, e, api.ErrDown)
		}
		d.Start()
		if now := texts(t, d); now != before {
			t.Fatal(e, now, before)
		}
	}
}

// P1: no argument leads to a panic, on a machine that is up or down, armed or not.
func TestAnyArguments(t *testing.T) {
	numbers := append([]int{0, 1, 7, 6, -2}, wrongFiles...)
	for _, n := range numbers {
		for _, f := range numbers {
			for _, down := range []bool{false, true} {
				p := pair{made(t, 2, "abcd", "", "", "", "", "", "", "efgh"), &model{}}
				p.m.parts[0], p.m.parts[7] = part{"ab", "cd"}, part{"ef", "gh"}
				names := []string{"Append", "Read", "Cut", "Turn", "Lose", "Flush", "Arm", "Flush", "Turn", "Append", "Crash", "Start", "Append"}
				if down {
					names = append([]string{"Crash"}, names...)
				}
				for _, name := range names {
					c := call{name: name, f: f, n: n, s: "x", keep: []int{f, n}}
					if diff := p.differs(c); diff != "" {
						t.Fatal(f, n, down, diff)
					}
				}
			}
		}
	}
}
