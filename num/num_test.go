package num_test

import (
	"cmp"
	"math"
	"math/big"
	"math/rand"
	"slices"
	"strings"
	"sync"
	"testing"

	"agora/api"
	"agora/num"
)

const most = api.MaxNum

// edges returns the integers around which a function of the package may change its behaviour, ascending.
func edges() []int {
	list := []int{math.MinInt, math.MaxInt}
	for _, n := range []int{0, 2, 7, 10, 100, 1 << 25, 1 << 31, 1 << 32, most / 3, most / 2, most, 2 * most, 1 << 62} {
		for d := -2; d <= 2; d++ {
			list = append(list, n+d, -n+d)
		}
	}
	for d := 1; d <= 3; d++ {
		list = append(list, math.MinInt+d, math.MaxInt-d)
	}
	slices.Sort(list)
	return slices.Compact(list)
}

// pairs returns all pairs of edges, and pairs of other integers of every length.
func pairs() [][2]int {
	var list [][2]int
	for _, a := range edges() {
		for _, b := range edges() {
			list = append(list, [2]int{a, b})
		}
	}
	r := rand.New(rand.NewSource(1))
	draw := func() int { return int(r.Uint64()) >> r.Intn(64) }
	for range 20000 {
		list = append(list, [2]int{draw(), draw()})
	}
	return list
}

// natural returns integers that are not negative: the small ones and those around which a result reaches the limit.
func natural() []int {
	list := []int{0, 1, 2, 3, 5, 1<<25 - 1, 1 << 25, 1<<25 + 1, most / 3, most/2 - 1, most / 2, most/2 + 1, most - 2, most - 1, most, most + 1, 3 * most, 1 << 62, math.MaxInt - 1, math.MaxInt}
	r := rand.New(rand.NewSource(2))
	for range 15 {
		list = append(list, int(r.Uint64()>>1)>>r.Intn(62))
	}
	return list
}

// limit is the definition of "to limit" for integers of any size.
func limit(n *big.Int) int {
	if n.Cmp(big.NewInt(most)) > 0 {
		return most
	}
	if n.Cmp(big.NewInt(-most)) < 0 {
		return -most
	}
	return int(n.Int64())
}

func exact(n int) *big.Int { return big.NewInt(int64(n)) }

// P1.1: Text returns the canonical form.
func TestText(t *testing.T) {
	for _, c := range []struct {
		n    int
		want string
	}{
		{0, "0"}, {1, "1"}, {-1, "-1"}, {9, "9"}, {10, "10"}, {-7, "-7"}, {-10, "-10"}, {120, "120"}, {1000000, "1000000"},
		{most, "1125899906842624"}, {-most, "-1125899906842624"},
		{math.MaxInt, "9223372036854775807"}, {math.MinInt, "-9223372036854775808"},
	} {
		if s := num.Text(c.n); s != c.want {
			t.Errorf("Text(%d) = %q, want %q", c.n, s, c.want)
		}
	}
	for _, n := range edges() {
		if s, want := num.Text(n), exact(n).String(); s != want {
			t.Errorf("Text(%d) = %q, want %q", n, s, want)
		}
	}
}

// P1.1: Parse accepts every canonical form within the bounds.
func TestParseCanonical(t *testing.T) {
	for _, p := range pairs() {
		n := p[0]
		for _, bounds := range [][2]int{{math.MinInt, math.MaxInt}, {n, n}, {math.MinInt, n}, {n, math.MaxInt}} {
			got, ok := num.Parse(exact(n).String(), bounds[0], bounds[1])
			if got != n || !ok {
				t.Fatalf("Parse(%d, %v) = %d %v", n, bounds, got, ok)
			}
		}
	}
}

// P1.1: Parse rejects what is outside the bounds, and everything if low is greater than high.
func TestParseBounds(t *testing.T) {
	for _, c := range []struct {
		s         string
		low, high int
		n         int
		ok        bool
	}{
		{"-7", -9, 9, -7, true}, {"7", 7, 7, 7, true}, {"7", 8, 9, 0, false}, {"7", 0, 6, 0, false},
		{"-7", -6, 0, 0, false}, {"-7", -9, -8, 0, false}, {"0", 0, 0, 0, true}, {"0", 1, 9, 0, false}, {"0", -9, -1, 0, false},
		{"7", 9, 5, 0, false}, {"7", 8, 7, 0, false}, {"7", 7, 6, 0, false}, {"5", 9, 5, 0, false}, {"9", 9, 5, 0, false}, {"0", 1, -1, 0, false},
		{"7", math.MaxInt, math.MinInt, 0, false},
	} {
		if n, ok := num.Parse(c.s, c.low, c.high); n != c.n || ok != c.ok {
			t.Errorf("Parse(%q, %d, %d) = %d %v", c.s, c.low, c.high, n, ok)
		}
	}
	for _, p := range pairs() {
		for _, n := range []int{p[0] - 1, p[0], p[1], p[1] + 1} {
			want := p[0] <= n && n <= p[1]
			got, ok := num.Parse(num.Text(n), p[0], p[1])
			if ok != want || ok && got != n || !ok && got != 0 {
				t.Fatalf("Parse(%d, %v) = %d %v", n, p, got, ok)
			}
		}
	}
}

// P1.1: Parse rejects strings that are the canonical form of no int.
func TestParseInvalid(t *testing.T) {
	list := []string{
		"", "-", "+", "--", "+7", "-+7", "--7", "07", "-07", "00", "-0", "+0", "000", "7 ", " 7", "7\n", "\t7", "7\x00", "\x007", "7-", "1-2",
		"1e3", "1.0", "1.", ".5", "1_000", "1,000", "0x10", "0b1", "0o7", "a", "7a", "a7", "inf", "nan", "true",
		"\u0663", "\uff17", "\u22127", "7\xff", "\xff", "/", ":", "1/", "1:",
		"9223372036854775808", "-9223372036854775809", "18446744073709551615", "18446744073709551616", "18446744073709551623",
		"99999999999999999999", "-99999999999999999999", "09223372036854775807", strings.Repeat("9", 1000), strings.Repeat("0", 1000), "-" + strings.Repeat("1", 1000),
	}
	for _, s := range list {
		if n, ok := num.Parse(s, math.MinInt, math.MaxInt); n != 0 || ok {
			t.Errorf("Parse(%q) = %d %v", s, n, ok)
		}
	}
	for c := range 256 {
		s := "1" + string([]byte{byte(c)}) + "2"
		_, ok := num.Parse(s, math.MinInt, math.MaxInt)
		if want := '0' <= c && c <= '9'; ok != want {
			t.Errorf("Parse(%q) = %v", s, ok)
		}
	}
}

// P1.2: Clamp looks at low first, also if low is greater than high.
func TestClamp(t *testing.T) {
	for _, c := range []struct{ n, low, high, want int }{
		{5, 1, 9, 5}, {1, 1, 9, 1}, {9, 1, 9, 9}, {0, 1, 9, 1}, {10, 1, 9, 9}, {7, 4, 4, 4}, {3, 4, 4, 4}, {-5, -9, -1, -5},
		{3, 5, 4, 5}, {6, 5, 4, 4}, {5, 5, 4, 4}, {4, 5, 4, 5}, {4, 9, 1, 9}, {9, 9, 1, 1}, {100, 9, 1, 1}, {-100, 9, 1, 9},
		{math.MinInt, -1, 1, -1}, {math.MaxInt, -1, 1, 1}, {0, math.MinInt, math.MaxInt, 0}, {math.MinInt, math.MinInt, math.MaxInt, math.MinInt},
		{math.MaxInt, math.MinInt, math.MaxInt, math.MaxInt}, {0, math.MaxInt, math.MinInt, math.MaxInt}, {math.MaxInt, math.MaxInt, math.MinInt, math.MinInt},
	} {
		if n := num.Clamp(c.n, c.low, c.high); n != c.want {
			t.Errorf("Clamp(%d, %d, %d) = %d, want %d", c.n, c.low, c.high, n, c.want)
		}
	}
}

// P1.3: the chapter's examples and the limits by hand.
func TestLimits(t *testing.T) {
	for _, c := range []struct{ a, b, add, sub, mul int }{
		{2, 3, 5, -1, 6}, {-2, 3, 1, -5, -6}, {2, -3, -1, 5, -6}, {-2, -3, -5, 1, 6}, {0, 0, 0, 0, 0},
		{most, 1, most, most - 1, most}, {-most, 1, 1 - most, -most, -most}, {most, -2, most - 2, most, -most},
		{most - 1, 1, most, most - 2, most - 1}, {most, most, most, 0, most}, {2 * most, -most, most, most, -most}, {2 * most, -2 * most, 0, most, -most},
		{0, math.MinInt, -most, most, 0}, {math.MinInt, 0, -most, -most, 0}, {math.MinInt, math.MinInt, -most, 0, most},
		{math.MaxInt, math.MaxInt, most, 0, most}, {math.MinInt, math.MaxInt, -1, -most, -most}, {math.MaxInt, math.MinInt, -1, most, -most},
		{math.MinInt, -1, -most, -most, most}, {math.MinInt, 1, -most, -most, -most}, {math.MinInt, 2, -most, -most, -most},
		{1 << 32, 1 << 32, 1 << 33, 0, most}, {1 << 32, -1 << 32, 0, 1 << 33, -most}, {1 << 25, 1 << 25, 1 << 26, 0, most}, {1<<25 + 1, 1<<25 - 1, 1 << 26, 2, most - 1},
	} {
		if x, y, z := num.Add(c.a, c.b), num.Sub(c.a, c.b), num.Mul(c.a, c.b); x != c.add || y != c.sub || z != c.mul {
			t.Errorf("%d and %d: %d %d %d, want %d %d %d", c.a, c.b, x, y, z, c.add, c.sub, c.mul)
		}
	}
}

// P1.3: Add, Sub and Mul are the limited exact results for any integers.
func TestExactResults(t *testing.T) {
	for _, p := range pairs() {
		a, b := p[0], p[1]
		if got, want := num.Add(a, b), limit(new(big.Int).Add(exact(a), exact(b))); got != want {
			t.Fatalf("Add(%d, %d) = %d, want %d", a, b, got, want)
		}
		if got, want := num.Sub(a, b), limit(new(big.Int).Sub(exact(a), exact(b))); got != want {
			t.Fatalf("Sub(%d, %d) = %d, want %d", a, b, got, want)
		}
		if got, want := num.Mul(a, b), limit(new(big.Int).Mul(exact(a), exact(b))); got != want {
			t.Fatalf("Mul(%d, %d) = %d, want %d", a, b, got, want)
		}
	}
}

// P1.4: the quotient is rounded toward zero, and the remainder has the sign of a.
func TestDivision(t *testing.T) {
	for _, c := range []struct{ a, b, q, r int }{
		{7, 2, 3, 1}, {-7, 2, -3, -1}, {7, -2, -3, 1}, {-7, -2, 3, -1}, {6, 3, 2, 0}, {-6, 3, -2, 0}, {0, 5, 0, 0}, {0, -5, 0, 0}, {1, 2, 0, 1}, {-1, 2, 0, -1},
		{most, 1, most, 0}, {most + 1, 1, most, 0}, {-most - 1, 1, -most, 0}, {most + 5, most, 1, 5}, {3 * most, 2 * most, 1, most}, {-3 * most, 2 * most, -1, -most},
		{math.MinInt, -1, most, 0}, {math.MinInt, 1, -most, 0}, {math.MinInt, math.MinInt, 1, 0}, {math.MinInt, math.MaxInt, -1, -1},
		{math.MaxInt, math.MinInt, 0, most}, {math.MinInt + 1, math.MinInt, 0, -most}, {5, math.MinInt, 0, 5}, {-5, math.MinInt, 0, -5},
	} {
		q, one := num.Div(c.a, c.b)
		r, two := num.Mod(c.a, c.b)
		if q != c.q || r != c.r || !one || !two {
			t.Errorf("%d and %d: %d %v, %d %v, want %d, %d", c.a, c.b, q, one, r, two, c.q, c.r)
		}
	}
}

// P1.4: Div and Mod have no result for b = 0, and the limited exact one otherwise.
func TestExactDivision(t *testing.T) {
	for _, a := range edges() {
		q, one := num.Div(a, 0)
		r, two := num.Mod(a, 0)
		if q != 0 || one || r != 0 || two {
			t.Errorf("%d and 0: %d %v, %d %v", a, q, one, r, two)
		}
	}
	for _, p := range pairs() {
		a, b := p[0], p[1]
		if b == 0 {
			continue
		}
		q, r := new(big.Int).QuoRem(exact(a), exact(b), new(big.Int))
		if got, ok := num.Div(a, b); got != limit(q) || !ok {
			t.Fatalf("Div(%d, %d) = %d %v, want %v", a, b, got, ok, q)
		}
		if got, ok := num.Mod(a, b); got != limit(r) || !ok || got != 0 && got < 0 != (a < 0) {
			t.Fatalf("Mod(%d, %d) = %d %v, want %v", a, b, got, ok, r)
		}
	}
}

// results has what all functions of the package return for one pair of arguments.
type results struct {
	text                           string
	parse, clamp, add, sub, mul    int
	div, mod                       int
	parseOk, otherOk, divOk, modOk bool
}

func call(a, b int) results {
	var r results
	r.text = num.Text(a)
	r.parse, r.parseOk = num.Parse(r.text, min(a, b), max(a, b))
	_, r.otherOk = num.Parse(r.text, b, b)
	r.clamp, r.add, r.sub, r.mul = num.Clamp(a, b, a), num.Add(a, b), num.Sub(a, b), num.Mul(a, b)
	r.div, r.divOk = num.Div(a, b)
	r.mod, r.modOk = num.Mod(a, b)
	return r
}

// P1.5: a result depends neither on earlier calls nor on calls at the same time.
func TestPure(t *testing.T) {
	list := pairs()[:5000]
	first := make([]results, len(list))
	for i, p := range list {
		first[i] = call(p[0], p[1])
	}
	var group sync.WaitGroup
	for range 4 {
		group.Go(func() {
			for i := len(list) - 1; i >= 0; i-- {
				if again := call(list[i][0], list[i][1]); again != first[i] {
					t.Errorf("%v: %v, then %v", list[i], first[i], again)
					return
				}
			}
		})
	}
	group.Wait()
}

// P1.6: neutral elements, and commutativity.
func TestPairLaws(t *testing.T) {
	for _, a := range natural() {
		if a <= most && (num.Add(a, 0) != a || num.Add(0, a) != a || num.Mul(a, 1) != a || num.Mul(1, a) != a) {
			t.Errorf("%d: 0 or 1 is not neutral", a)
		}
		for _, b := range natural() {
			if num.Add(a, b) != num.Add(b, a) || num.Mul(a, b) != num.Mul(b, a) {
				t.Errorf("%d and %d do not commute", a, b)
			}
			x, y := num.Clamp(a, -most, most), num.Clamp(b, -most, most)
			if num.Add(a, b) != num.Add(x, y) || num.Mul(a, b) != num.Mul(x, y) {
				t.Errorf("%d and %d: limiting the arguments first changes a result", a, b)
			}
		}
	}
}

// P1.6: associativity and distributivity.
func TestTripleLaws(t *testing.T) {
	for _, a := range natural() {
		for _, b := range natural() {
			for _, c := range natural() {
				if num.Add(num.Add(a, b), c) != num.Add(a, num.Add(b, c)) {
					t.Errorf("Add is not associative: %d %d %d", a, b, c)
				}
				if num.Mul(num.Mul(a, b), c) != num.Mul(a, num.Mul(b, c)) {
					t.Errorf("Mul is not associative: %d %d %d", a, b, c)
				}
				if num.Mul(a, num.Add(b, c)) != num.Add(num.Mul(a, b), num.Mul(a, c)) {
					t.Errorf("Mul does not distribute: %d %d %d", a, b, c)
				}
			}
		}
	}
}

// ordered fails the test unless f of ascending arguments is ascending, or descending for direction -1.
func ordered(t *testing.T, what string, direction int, f func(n int) int) {
	t.Helper()
	list := edges()
	for i := 1; i < len(list); i++ {
		x, y := f(list[i-1]), f(list[i])
		if cmp.Compare(x, y)*direction > 0 {
			t.Fatalf("%s is not monotonic: %d gives %d, %d gives %d", what, list[i-1], x, list[i], y)
		}
	}
}

// P1.7: monotonicity.
func TestMonotonic(t *testing.T) {
	for _, k := range edges() {
		ordered(t, "Add in a", 1, func(n int) int { return num.Add(n, k) })
		ordered(t, "Add in b", 1, func(n int) int { return num.Add(k, n) })
		ordered(t, "Sub in a", 1, func(n int) int { return num.Sub(n, k) })
		ordered(t, "Sub in b", -1, func(n int) int { return num.Sub(k, n) })
		if k > 0 {
			ordered(t, "Mul in a", 1, func(n int) int { return num.Mul(n, k) })
			ordered(t, "Div in a", 1, func(n int) int { q, _ := num.Div(n, k); return q })
		}
		for _, high := range edges() {
			if k <= high {
				ordered(t, "Clamp in n", 1, func(n int) int { return num.Clamp(n, k, high) })
			}
		}
	}
}
