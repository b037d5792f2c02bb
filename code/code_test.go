package code_test

import (
	"math"
	"math/big"
	"math/rand"
	"slices"
	"strings"
	"testing"

	"agora/code"
)

const most = 1 << 61

// edges returns the integers around which the length of an encoding or the result of a function may change.
func edges() []int {
	list := []int{math.MinInt, math.MinInt + 1, math.MaxInt, math.MaxInt - 1, 1000000, -1000000}
	for k := range 63 {
		for d := -2; d <= 2; d++ {
			list = append(list, 1<<k+d, -1<<k+d)
		}
	}
	slices.Sort(list)
	return slices.Compact(list)
}

// short returns strings of a few bytes, some of which are also digits of varints.
func short() []string {
	return []string{"", "a", "\x00", "\x80", "\xff", "\x00\x00", "\x80\x00", "\x01a", "gr\u00fc\u00dfe", "\xff\xfe"}
}

// texts returns strings of many lengths.
func texts() []string {
	list := short()
	for _, n := range []int{126, 127, 128, 129, 255, 256, 16383, 16384, 16385} {
		list = append(list, strings.Repeat("x", n), strings.Repeat("\x80", n))
	}
	return list
}

func encodable(n int) bool { return -most <= n && n <= most }

// varint is the definition of a varint for integers of any size that are not negative.
func varint(n *big.Int) string {
	base, out := big.NewInt(128), []byte(nil)
	for {
		digit := new(big.Int)
		n, digit = new(big.Int).QuoRem(n, base, digit)
		if n.Sign() == 0 {
			return string(append(out, byte(digit.Int64())))
		}
		out = append(out, byte(digit.Int64()+128))
	}
}

// zigzag is the definition of a zigzag number.
func zigzag(n int) *big.Int {
	twice := new(big.Int).Mul(big.NewInt(2), big.NewInt(int64(n)))
	if n >= 0 {
		return twice
	}
	return twice.Sub(twice.Neg(twice), big.NewInt(1))
}

// model is a reader as the chapter defines it, step by step.
type model struct {
	rest   string
	failed bool
}

func (m *model) fail() { m.rest, m.failed = "", true }

func (m *model) num() int {
	end := 0
	for end < len(m.rest) && m.rest[end] >= 128 {
		end++
	}
	if end == len(m.rest) || end >= 9 || end > 0 && m.rest[end] == 0 {
		m.fail()
		return 0
	}
	n := new(big.Int)
	for i := end; i >= 0; i-- {
		n.Add(n.Mul(n, big.NewInt(128)), big.NewInt(int64(m.rest[i]&127)))
	}
	m.rest = m.rest[end+1:]
	return int(n.Int64())
}

func (m *model) int() int {
	z := m.num()
	n := z / 2
	if z%2 == 1 {
		n = -(z/2 + 1)
	}
	if !encodable(n) {
		m.fail()
		return 0
	}
	return n
}

func (m *model) take(n int) string {
	if m.failed || n < 0 || n > len(m.rest) {
		m.fail()
		return ""
	}
	s := m.rest[:n]
	m.rest = m.rest[n:]
	return s
}

func (m *model) text() string { return m.take(m.num()) }

func (m *model) list() []string {
	var l []string
	n := m.num()
	if n > len(m.rest) {
		m.fail()
		return nil
	}
	for range n {
		l = append(l, m.text())
	}
	if m.failed {
		return nil
	}
	return l
}

func (m *model) nums() []int {
	var l []int
	n := m.num()
	if n > len(m.rest) {
		m.fail()
		return nil
	}
	for range n {
		l = append(l, m.int())
	}
	if m.failed {
		return nil
	}
	return l
}

// failed fails the test unless r behaves like a reader that has failed, whatever is called.
func failed(t *testing.T, what string, r *code.Reader) {
	t.Helper()
	for range 2 {
		if r.Left() != 0 || r.Done() {
			t.Errorf("%s: the reader has not failed: Left %d, Done %v", what, r.Left(), r.Done())
		}
		if r.Num() != 0 || r.Int() != 0 || r.Take(0) != "" || r.Take(1) != "" || r.Take(-1) != "" || r.Text() != "" || r.List() != nil || r.Nums() != nil {
			t.Errorf("%s: a reader that has failed returns something", what)
		}
	}
}

// P2.1: Num and Int by hand.
func TestNumInt(t *testing.T) {
	for _, c := range []struct {
		n    int
		want string
	}{
		{0, "\x00"}, {1, "\x01"}, {127, "\x7f"}, {128, "\x80\x01"}, {129, "\x81\x01"}, {255, "\xff\x01"}, {256, "\x80\x02"}, {300, "\xac\x02"},
		{16383, "\xff\x7f"}, {16384, "\x80\x80\x01"}, {1 << 56, strings.Repeat("\x80", 8) + "\x01"}, {math.MaxInt, strings.Repeat("\xff", 8) + "\x7f"},
		{-1, ""}, {-2, ""}, {-128, ""}, {-300, ""}, {math.MinInt, ""}, {-math.MaxInt, ""},
	} {
		if s := code.Num(c.n); s != c.want {
			t.Errorf("Num(%d) = %.40q, want %.40q", c.n, s, c.want)
		}
	}
	for _, c := range []struct {
		n    int
		want string
	}{
		{0, "\x00"}, {-1, "\x01"}, {1, "\x02"}, {-2, "\x03"}, {2, "\x04"}, {63, "\x7e"}, {-64, "\x7f"}, {64, "\x80\x01"}, {-65, "\x81\x01"},
		{most, strings.Repeat("\x80", 8) + "\x40"}, {-most, strings.Repeat("\xff", 8) + "\x3f"}, {most - 1, "\xfe" + strings.Repeat("\xff", 7) + "\x3f"},
		{most + 1, ""}, {-most - 1, ""}, {2 * most, ""}, {-2 * most, ""}, {math.MaxInt, ""}, {math.MinInt, ""}, {math.MinInt + 1, ""},
	} {
		if s := code.Int(c.n); s != c.want {
			t.Errorf("Int(%d) = %.40q, want %.40q", c.n, s, c.want)
		}
	}
}

// P2.1: Num and Int are the varints of n and of its zigzag number.
func TestVarints(t *testing.T) {
	r := rand.New(rand.NewSource(1))
	list := edges()
	for range 20000 {
		list = append(list, int(r.Uint64())>>r.Intn(64))
	}
	for _, n := range list {
		want := ""
		if n >= 0 {
			want = varint(big.NewInt(int64(n)))
		}
		if s := code.Num(n); s != want {
			t.Fatalf("Num(%d) = %.40q, want %.40q", n, s, want)
		}
		want = ""
		if encodable(n) {
			want = varint(zigzag(n))
		}
		if s := code.Int(n); s != want {
			t.Fatalf("Int(%d) = %.40q, want %.40q", n, s, want)
		}
	}
}

// P2.1: Text is the length, in bytes, followed by the string.
func TestText(t *testing.T) {
	if s := code.Text("ab"); s != "\x02ab" {
		t.Errorf("Text = %.40q", s)
	}
	if s := code.Text("\u00fc\xff"); s != "\x03\xc3\xbc\xff" {
		t.Errorf("Text = %.40q", s)
	}
	for _, s := range texts() {
		if got, want := code.Text(s), varint(big.NewInt(int64(len(s))))+s; got != want {
			t.Errorf("Text of %d bytes = %.40q", len(s), got)
		}
	}
}

// P2.1: the lists by hand, empty ones and numbers that Int does not encode among them.
func TestLists(t *testing.T) {
	for _, c := range []struct {
		l    []string
		want string
	}{
		{nil, "\x00"}, {[]string{}, "\x00"}, {[]string{""}, "\x01\x00"}, {[]string{"", "c"}, "\x02\x00\x01c"}, {[]string{"c", ""}, "\x02\x01c\x00"},
		{[]string{"ab", "\x80", "ab"}, "\x03\x02ab\x01\x80\x02ab"},
	} {
		if s := code.List(c.l); s != c.want {
			t.Errorf("List(%.40q) = %.40q, want %.40q", c.l, s, c.want)
		}
	}
	for _, c := range []struct {
		l    []int
		want string
	}{
		{nil, "\x00"}, {[]int{}, "\x00"}, {[]int{0}, "\x01\x00"}, {[]int{7, -2}, "\x02\x0e\x03"}, {[]int{-2, 7}, "\x02\x03\x0e"}, {[]int{64, 0, -1}, "\x03\x80\x01\x00\x01"},
		{[]int{most + 1}, "\x01"}, {[]int{7, 2 * most, -2}, "\x03\x0e\x03"}, {[]int{math.MinInt, -most - 1, math.MaxInt, 1}, "\x04\x02"},
	} {
		if s := code.Nums(c.l); s != c.want {
			t.Errorf("Nums(%d) = %.40q, want %.40q", c.l, s, c.want)
		}
	}
}

// P2.1: a list is its length followed by its elements in order, also if the length has several digits.
func TestLongLists(t *testing.T) {
	some, all := short(), edges()
	for _, n := range []int{1, 127, 128, 129, 16384} {
		head := varint(big.NewInt(int64(n)))
		names, numbers := make([]string, n), make([]int, n)
		var wantNames, wantNumbers strings.Builder
		wantNames.WriteString(head)
		wantNumbers.WriteString(head)
		for i := range n {
			names[i], numbers[i] = some[i%len(some)], all[i%len(all)]
			wantNames.WriteString(code.Text(names[i]))
			wantNumbers.WriteString(code.Int(numbers[i]))
		}
		if code.List(names) != wantNames.String() {
			t.Errorf("List of %d strings", n)
		}
		if code.Nums(numbers) != wantNumbers.String() {
			t.Errorf("Nums of %d integers", n)
		}
	}
}

// P2.2, P2.4: Open returns a reader that has not failed and whose rest is the string.
func TestOpen(t *testing.T) {
	for _, s := range texts() {
		r := code.Open(s)
		if r.Left() != len(s) || r.Done() != (s == "") {
			t.Errorf("Open of %d bytes: Left %d, Done %v", len(s), r.Left(), r.Done())
		}
		if got := r.Take(len(s)); got != s || !r.Done() || r.Take(0) != "" || !r.Done() {
			t.Errorf("Open of %d bytes has the rest %.40q", len(s), got)
		}
	}
}

// P2.2: Num reads every varint of an int, and nothing behind it.
func TestReadNum(t *testing.T) {
	for _, n := range edges() {
		if n < 0 {
			continue
		}
		for _, rest := range []string{"", "\x00", "\x80", "\xff\xff", "\x01z"} {
			r := code.Open(code.Num(n) + rest)
			if got := r.Num(); got != n || r.Left() != len(rest) || r.Take(len(rest)) != rest || !r.Done() {
				t.Errorf("%d before %.40q is read as %d", n, rest, got)
			}
		}
	}
}

// P2.2: Num fails if there is no end, after nine bytes of 128 or greater, and at a superfluous zero.
func TestReadNumFails(t *testing.T) {
	list := []string{"", "\x80", "\xff", "\x80\xff", "\x80\x00", "\xff\x00", "\x80\x80\x00", "\x80\x00z", "\x81\x80\x00\x01", strings.Repeat("\xff", 8) + "\x00"}
	for _, c := range []string{"\x80", "\x81", "\xff"} {
		for _, n := range []int{7, 8, 9, 10, 11, 100} {
			list = append(list, strings.Repeat(c, n), strings.Repeat(c, n)+"\x00", strings.Repeat(c, n)+"\x00z")
			if n >= 9 {
				list = append(list, strings.Repeat(c, n)+"\x01", strings.Repeat(c, n)+"\x7f", strings.Repeat(c, n)+"\x01\x00")
			}
		}
	}
	for _, s := range list {
		for _, tail := range []bool{false, true} {
			if tail && strings.Trim(s, "\x80\x81\xff") == "" && len(s) < 9 {
				continue // the tail would end the varint
			}
			input := s
			if tail {
				input += "\x01\x01"
			}
			r := code.Open(input)
			if n := r.Num(); n != 0 {
				t.Errorf("Num of %.40q = %d", input, n)
			}
			failed(t, "Num", r)
		}
	}
}

// P2.2: zeros are superfluous only at the end of a varint of several digits.
func TestReadZeros(t *testing.T) {
	r := code.Open("\x00\x00\x80\x80\x01\x00")
	if a, b, c, d := r.Num(), r.Num(), r.Num(), r.Num(); a != 0 || b != 0 || c != 1<<14 || d != 0 || !r.Done() {
		t.Error(a, b, c, d)
	}
}

// P2.2: Int reads every integer from -2^61 to 2^61, and fails for all others.
func TestReadInt(t *testing.T) {
	for _, n := range edges() {
		if !encodable(n) {
			continue
		}
		r := code.Open(code.Int(n) + "\xff")
		if got := r.Int(); got != n || r.Left() != 1 {
			t.Errorf("%d is read as %d", n, got)
		}
	}
	for z, want := range map[int]int{0: 0, 1: -1, 2: 1, 3: -2, 4: 2, 2*most - 1: -most, 2 * most: most} {
		if n := code.Open(code.Num(z)).Int(); n != want {
			t.Errorf("the zigzag number %d is read as %d, want %d", z, n, want)
		}
	}
	for _, z := range []int{2*most + 1, 2*most + 2, 2*most + 3, 3 * most, math.MaxInt - 2, math.MaxInt - 1, math.MaxInt} {
		r := code.Open(code.Num(z) + "\x02\x02")
		if n := r.Int(); n != 0 {
			t.Errorf("the zigzag number %d is read as %d", z, n)
		}
		failed(t, "Int", r)
	}
	for _, s := range []string{"", "\x80", "\x82\x00", strings.Repeat("\x80", 9) + "\x01"} {
		r := code.Open(s)
		if n := r.Int(); n != 0 {
			t.Errorf("Int of %.40q = %d", s, n)
		}
		failed(t, "Int", r)
	}
}

// P2.2: Take reads from 0 to all bytes of the rest, and fails otherwise.
func TestTake(t *testing.T) {
	r := code.Open("abcde")
	if a, b, c, d := r.Take(2), r.Take(0), r.Take(1), r.Left(); a != "ab" || b != "" || c != "c" || d != 2 {
		t.Error(a, b, c, d)
	}
	if s := r.Take(2); s != "de" || !r.Done() {
		t.Error(s)
	}
	for _, n := range []int{-1, -2, -100, math.MinInt, 6, 7, 1 << 32, math.MaxInt} {
		r := code.Open("abcde")
		if s := r.Take(n); s != "" {
			t.Errorf("Take(%d) = %.40q", n, s)
		}
		failed(t, "Take", r)
	}
	r = code.Open("")
	if s := r.Take(1); s != "" {
		t.Error(s)
	}
	failed(t, "Take of an empty rest", r)
}

// P2.3: Text reads a string, and fails if its length is missing, malformed or too great.
func TestReadText(t *testing.T) {
	for _, s := range texts() {
		r := code.Open(code.Text(s) + "\x80")
		if got := r.Text(); got != s || r.Left() != 1 || r.Done() {
			t.Errorf("a string of %d bytes is read as %.40q", len(s), got)
		}
	}
	for _, s := range []string{"", "\x80", "\x01", "\x05a", "\x03ab", "\x80\x00", "\x82\x00ab", "\x80\x01" + strings.Repeat("a", 127), code.Num(math.MaxInt) + "a", strings.Repeat("\x80", 9) + "\x01"} {
		r := code.Open(s)
		if got := r.Text(); got != "" {
			t.Errorf("Text of %.40q = %.40q", s, got)
		}
		failed(t, "Text", r)
	}
}

// P2.3: List and Nums read lists, also if the count is as great as the rest.
func TestReadLists(t *testing.T) {
	for _, l := range [][]string{nil, {""}, {"", "", ""}, {"a", "", "bc"}, texts(), make([]string, 300)} {
		r := code.Open(code.List(l) + "\x05")
		if got := r.List(); !slices.Equal(got, l) || r.Left() != 1 {
			t.Errorf("List of %d elements = %.40q", len(l), got)
		}
	}
	whole := slices.DeleteFunc(edges(), func(n int) bool { return !encodable(n) })
	for _, l := range [][]int{nil, {0}, {0, 0, 0}, {-1, 1 << 40, 5}, {most, -most}, whole, make([]int, 300)} {
		r := code.Open(code.Nums(l) + "\x05")
		if got := r.Nums(); !slices.Equal(got, l) || r.Left() != 1 {
			t.Errorf("Nums of %d elements = %d", len(l), got)
		}
	}
	r := code.Open("\x02\x00\x00")
	if l := r.List(); len(l) != 2 || !r.Done() {
		t.Errorf("%.40q", l)
	}
	r = code.Open("\x02\x00\x00")
	if l := r.Nums(); len(l) != 2 || !r.Done() {
		t.Errorf("%d", l)
	}
}

// P2.3: List and Nums fail for a count that is malformed or greater than the rest, however great, and for a malformed element.
func TestReadListsFail(t *testing.T) {
	both := []string{"", "\x80", "\x80\x00", "\x01", "\x02\x00", "\x03\x00\x00", "\x05ab", "\x80\x01" + strings.Repeat("\x00", 127), strings.Repeat("\x80", 9) + "\x01\x00", "\x81\x00\x00"}
	for _, n := range []int{3, 1 << 16, 1 << 31, 1 << 32, 1 << 40, 1 << 61, math.MaxInt} {
		both = append(both, code.Num(n), code.Num(n)+"\x00\x00")
	}
	lists := []string{"\x02\x01a\x05b", "\x02\x05a\x01b", "\x01\x80", "\x02\x00\x80", "\x01\x80\x00", "\x03\x01a\x01b\x80\x80", "\x02\x01ab", "\x01" + code.Num(math.MaxInt) + "a"}
	nums := []string{"\x02\x01\x80", "\x01\x80\x00", "\x03\x02\x04\xff\xff", "\x01" + code.Num(2*most+1), "\x01" + code.Num(2*most+2), "\x02\x02" + code.Num(math.MaxInt), "\x02" + code.Num(math.MaxInt) + "\x02", code.Nums([]int{7, 2 * most})}
	for _, s := range append(lists, both...) {
		r := code.Open(s)
		if l := r.List(); l != nil {
			t.Errorf("List of %.40q = %.40q", s, l)
		}
		failed(t, "List", r)
	}
	for _, s := range append(nums, both...) {
		r := code.Open(s)
		if l := r.Nums(); l != nil {
			t.Errorf("Nums of %.40q = %d", s, l)
		}
		failed(t, "Nums", r)
	}
}

// P2.4: Left and Done follow the rest, and Done is false for a rest and after a failure.
func TestLeftDone(t *testing.T) {
	r := code.Open("\x07\x02ab\x01")
	for _, c := range []struct {
		step func()
		left int
		done bool
	}{
		{func() {}, 5, false}, {func() { r.Num() }, 4, false}, {func() { r.Text() }, 1, false}, {func() { r.Take(0) }, 1, false},
		{func() { r.Int() }, 0, true}, {func() { r.Take(0) }, 0, true}, {func() { r.Num() }, 0, false}, {func() { r.Take(0) }, 0, false},
	} {
		c.step()
		if r.Left() != c.left || r.Left() != c.left || r.Done() != c.done || r.Done() != c.done {
			t.Errorf("Left %d, Done %v, want %d, %v", r.Left(), r.Done(), c.left, c.done)
		}
	}
	r = code.Open("\x05a")
	if s := r.Text(); s != "" || r.Left() != 0 || r.Done() {
		t.Error(s, r.Left(), r.Done())
	}
}

// input returns a string to be read: noise that is rich in edge cases, or encodings with a few wrong bytes.
func input(r *rand.Rand) string {
	const bytes = "\x00\x00\x01\x01\x02\x03\x05\x7f\x80\x80\x81\xfe\xff\xff"
	var s []byte
	if r.Intn(2) == 0 {
		for range r.Intn(24) {
			s = append(s, bytes[r.Intn(len(bytes))])
		}
		return string(s)
	}
	for range r.Intn(6) {
		s = append(s, draw(r).encode()...)
	}
	for range r.Intn(3) {
		if len(s) > 0 {
			s[r.Intn(len(s))] = bytes[r.Intn(len(bytes))]
		}
	}
	return string(s)
}

// step reads one value, of a kind that is given as a number, with the reader and with the model, and reports whether both do the same.
func step(r *code.Reader, m *model, kind, n int) bool {
	same := false
	switch kind {
	case 0:
		same = r.Num() == m.num()
	case 1:
		same = r.Int() == m.int()
	case 2:
		same = r.Take(n) == m.take(n)
	case 3:
		same = r.Text() == m.text()
	case 4:
		got, want := r.List(), m.list()
		same = slices.Equal(got, want) && (got == nil || !m.failed)
	case 5:
		got, want := r.Nums(), m.nums()
		same = slices.Equal(got, want) && (got == nil || !m.failed)
	}
	return same && r.Left() == len(m.rest) && r.Done() == (!m.failed && m.rest == "")
}

// P2.2, P2.3, P2.4: on any input and in any order of calls, the reader does what the chapter defines.
func TestModel(t *testing.T) {
	r := rand.New(rand.NewSource(2))
	for range 100000 {
		s := input(r)
		reader, m := code.Open(s), &model{rest: s}
		var steps []int
		for range 8 {
			kind, n := r.Intn(6), r.Intn(8)-1
			steps = append(steps, kind, n)
			if !step(reader, m, kind, n) {
				t.Fatalf("%.40q: the calls %v differ", s, steps)
			}
		}
	}
}

// P2.5: the encoding functions neither change a slice nor look behind its end, and do not keep it.
func TestArguments(t *testing.T) {
	names := []string{"a", "", "b", "behind", "the end"}
	first := code.List(names[:3])
	if !slices.Equal(names, []string{"a", "", "b", "behind", "the end"}) || first != "\x03\x01a\x00\x01b" {
		t.Errorf("%.40q %.40q", first, names)
	}
	names[0] = "z"
	if first != "\x03\x01a\x00\x01b" || code.List(names[:1]) != "\x01\x01z" {
		t.Errorf("%.40q", first)
	}
	numbers := []int{1, 2 * most, -1, 8, 9}
	second := code.Nums(numbers[:3])
	if !slices.Equal(numbers, []int{1, 2 * most, -1, 8, 9}) || second != "\x03\x02\x01" {
		t.Errorf("%.40q %d", second, numbers)
	}
	numbers[0] = 3
	if second != "\x03\x02\x01" || code.Nums(numbers[:1]) != "\x01\x06" {
		t.Errorf("%.40q", second)
	}
}

// spoil overwrites a slice as far as its memory goes.
func spoil[E any](l []E, with E) {
	for i := range l[:cap(l)] {
		l[:cap(l)][i] = with
	}
}

// P2.5: what a reader returns is fresh memory, and readers do not share anything.
func TestResults(t *testing.T) {
	s := strings.Repeat(code.List([]string{"a", "b", "c"})+code.Nums([]int{1, 2, 3}), 4)
	one, two := code.Open(s), code.Open(s)
	var names [][]string
	var numbers [][]int
	for range 4 {
		for _, r := range []*code.Reader{one, two} {
			names, numbers = append(names, r.List()), append(numbers, r.Nums())
		}
	}
	if !one.Done() || !two.Done() {
		t.Fatal("the readers are not done")
	}
	for i := range names {
		if !slices.Equal(names[i], []string{"a", "b", "c"}) || !slices.Equal(numbers[i], []int{1, 2, 3}) {
			t.Errorf("%.40q %d", names[i], numbers[i])
		}
		spoil(names[i], "spoilt")
		spoil(numbers[i], -1)
	}
	r := code.Open(s)
	if l, m := r.List(), r.Nums(); !slices.Equal(l, []string{"a", "b", "c"}) || !slices.Equal(m, []int{1, 2, 3}) {
		t.Errorf("%.40q %d", l, m)
	}
}

// value is a value of one of the types that the package encodes; the other fields are not used.
type value struct {
	kind    int
	n       int
	s       string
	names   []string
	numbers []int
}

// draw returns a value that can be encoded alone.
func draw(r *rand.Rand) value {
	number := func() int { return int(r.Uint64()) >> (2 + r.Intn(62)) }
	text := func() string { return short()[r.Intn(10)] }
	v := value{kind: r.Intn(5)}
	switch v.kind {
	case 0:
		v.n = int(r.Uint64()>>1) >> r.Intn(63)
	case 1:
		v.n = number()
	case 2:
		v.s = text()
	case 3:
		for range r.Intn(4) {
			v.names = append(v.names, text())
		}
	case 4:
		for range r.Intn(4) {
			v.numbers = append(v.numbers, number())
		}
	}
	return v
}

func (v value) encode() string {
	switch v.kind {
	case 0:
		return code.Num(v.n)
	case 1:
		return code.Int(v.n)
	case 2:
		return code.Text(v.s)
	case 3:
		return code.List(v.names)
	}
	return code.Nums(v.numbers)
}

// read reads a value of the kind.
func read(r *code.Reader, kind int) value {
	v := value{kind: kind}
	switch kind {
	case 0:
		v.n = r.Num()
	case 1:
		v.n = r.Int()
	case 2:
		v.s = r.Text()
	case 3:
		v.names = r.List()
	case 4:
		v.numbers = r.Nums()
	}
	return v
}

func (v value) equal(w value) bool {
	return v.kind == w.kind && v.n == w.n && v.s == w.s && slices.Equal(v.names, w.names) && slices.Equal(v.numbers, w.numbers)
}

// P2.6: a sequence of encoded values is read back, whatever follows it.
func TestSequences(t *testing.T) {
	r := rand.New(rand.NewSource(3))
	for range 5000 {
		var values []value
		var s strings.Builder
		for range r.Intn(8) {
			v := draw(r)
			values = append(values, v)
			s.WriteString(v.encode())
		}
		rest := input(r)
		reader := code.Open(s.String() + rest)
		for i, v := range values {
			if got := read(reader, v.kind); !got.equal(v) {
				t.Fatalf("%.40q: the value %d is read as %v, want %v", s.String(), i, got, v)
			}
		}
		if reader.Left() != len(rest) || reader.Take(len(rest)) != rest || !reader.Done() {
			t.Fatalf("%.40q: the rest %.40q is not left", s.String(), rest)
		}
	}
}

// P2.6: encoding what was read without a failure restores the bytes that were read.
func TestRestored(t *testing.T) {
	r := rand.New(rand.NewSource(4))
	count := 0
	for range 100000 {
		s := input(r)
		for kind := range 5 {
			reader := code.Open(s)
			v := read(reader, kind)
			if reader.Left() == 0 && !reader.Done() {
				continue
			}
			count++
			if got, want := v.encode(), s[:len(s)-reader.Left()]; got != want {
				t.Fatalf("%.40q is read as %v, which is encoded as %.40q", want, v, got)
			}
		}
	}
	if count < 100000 {
		t.Errorf("only %d values were read", count)
	}
}

// P2.6: different values of one type have different encodings, none of which is a prefix of another.
func TestPrefixes(t *testing.T) {
	sets := make([][]string, 5)
	for _, n := range edges() {
		if n >= 0 {
			sets[0] = append(sets[0], code.Num(n))
		}
		if encodable(n) {
			sets[1] = append(sets[1], code.Int(n))
			sets[4] = append(sets[4], code.Nums([]int{n}), code.Nums([]int{n, 0}), code.Nums([]int{0, n, n}))
		}
	}
	for _, s := range texts() {
		sets[2] = append(sets[2], code.Text(s), code.Text(s+s), code.Text(code.Text(s)))
		sets[3] = append(sets[3], code.List([]string{s}), code.List([]string{s, ""}), code.List([]string{"", s, s}))
	}
	sizes := []int{len(sets[0]), len(sets[1])}
	for i, set := range sets {
		slices.Sort(set)
		set = slices.Compact(set)
		if i < len(sizes) && len(set) != sizes[i] {
			t.Errorf("of %d encodings of different integers, %d differ", sizes[i], len(set))
		}
		// It is enough to look at neighbours: in ascending order, whatever stands between a string and one that it is a prefix of begins with it too.
		for j := 1; j < len(set); j++ {
			if strings.HasPrefix(set[j], set[j-1]) {
				t.Errorf("%.40q is a prefix of %.40q", set[j-1], set[j])
			}
		}
	}
}
