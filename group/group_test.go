package group_test

import (
	"math"
	"math/big"
	"math/rand"
	"testing"

	"agora/group"
)

const (
	p = group.P
	n = group.N
)

// edges are the integers at which a calculation could go wrong: the least and the greatest ones, and those near the multiples of P and of N.
func edges() []int {
	out := []int{0, 1, 2, 3, 36, 37, 38, 1 << 31, 1 << 32, 1 << 60, 3_037_000_500, math.MinInt, math.MinInt + 1, math.MaxInt, math.MaxInt - 1}
	for k := -4; k <= 4; k++ {
		for d := -2; d <= 2; d++ {
			// 4P and 4N are the greatest multiples that fit into an int.
			out = append(out, k*p+d, k*n+d)
		}
	}
	return out
}

// randoms returns integers of all magnitudes and both signs.
func randoms(r *rand.Rand, count int) []int {
	out := make([]int, count)
	for i := range out {
		out[i] = int(r.Uint64()) >> r.Intn(64)
	}
	return out
}

// pairs calls f with every pair of edges, and with pairs of random integers.
func pairs(f func(a, b int)) {
	for _, a := range edges() {
		for _, b := range edges() {
			f(a, b)
		}
	}
	l := randoms(rand.New(rand.NewSource(4)), 2000)
	for i := range l {
		f(l[i], l[len(l)-1-i])
	}
}

func exact(a int) *big.Int { return big.NewInt(int64(a)) }

// rest returns the residue of x modulo m (big.Int.Mod never returns a negative integer).
func rest(x *big.Int, m int) int { return int(new(big.Int).Mod(x, exact(m)).Int64()) }

// calculations are compared with those of big integers.
type calculations struct{ add, sub, mul func(a, b int) int }

func compare(t *testing.T, m int, c calculations) {
	t.Helper()
	pairs(func(a, b int) {
		x, y := exact(a), exact(b)
		if got, want := c.add(a, b), rest(new(big.Int).Add(x, y), m); got != want {
			t.Errorf("%d + %d: %d, not %d", a, b, got, want)
		}
		if got, want := c.sub(a, b), rest(new(big.Int).Sub(x, y), m); got != want {
			t.Errorf("%d - %d: %d, not %d", a, b, got, want)
		}
		if got, want := c.mul(a, b), rest(new(big.Int).Mul(x, y), m); got != want {
			t.Errorf("%d * %d: %d, not %d", a, b, got, want)
		}
	})
}

// The constants have the values that the chapter states.
func TestConstants(t *testing.T) {
	if p != 2305843009213693951 || n != 2305843009213693950 || group.G != 37 {
		t.Error(p, n, group.G)
	}
}

// P4.1: the residues modulo P, of the integers that the chapter names and of those whose exact results do not fit into an int.
func TestModuloP(t *testing.T) {
	compare(t, p, calculations{group.Add, group.Sub, group.Mul})
	for _, c := range []struct{ got, want int }{
		{group.Add(p-1, 2), 1}, {group.Sub(0, 1), p - 1}, {group.Mul(p-1, p-1), 1}, {group.Add(-1, 0), p - 1},
		{group.Add(p, p), 0}, {group.Sub(p, 0), 0}, {group.Mul(p, 5), 0}, {group.Mul(-2*p, 1), 0},
		// 2^61 has the residue 1, so that 2^63 has the residue 4.
		{group.Add(math.MaxInt, 1), 4}, {group.Add(math.MinInt, math.MinInt), p - 8}, {group.Add(math.MaxInt, math.MaxInt), 6},
		{group.Sub(math.MinInt, math.MaxInt), p - 7}, {group.Sub(math.MaxInt, math.MinInt), 7}, {group.Sub(0, math.MinInt), 4},
		{group.Mul(math.MinInt, math.MinInt), 16}, {group.Mul(math.MinInt, math.MaxInt), p - 12}, {group.Mul(math.MaxInt, math.MaxInt), 9},
		{group.Mul(math.MinInt, -1), 4},
	} {
		if c.got != c.want {
			t.Error(c.got, "not", c.want)
		}
	}
}

// P4.2: an integer whose residue is 0 has no inverse, and 0 is returned for it.
func TestInvOfNothing(t *testing.T) {
	for k := -4; k <= 4; k++ {
		if x, ok := group.Inv(k * p); x != 0 || ok {
			t.Error(k, x, ok)
		}
	}
}

// P4.2: every other integer, also a negative one, has the inverse that big integers have.
func TestInv(t *testing.T) {
	if x, ok := group.Inv(2); x != 1<<60 || !ok {
		t.Error(x, ok)
	}
	for _, a := range append(edges(), randoms(rand.New(rand.NewSource(5)), 500)...) {
		if a%p == 0 {
			continue
		}
		want := int(new(big.Int).ModInverse(exact(a), exact(p)).Int64())
		if x, ok := group.Inv(a); x != want || !ok {
			t.Error(a, x, ok, "not", want)
		}
	}
}

// power is the power that P4.2 defines, of big integers.
func power(a, e int) int {
	if e < 0 {
		e = rest(exact(e), n)
	}
	return int(new(big.Int).Exp(exact(rest(exact(a), p)), exact(e), exact(p)).Int64())
}

// P4.2: Exp of all edges and of random integers is the power of big integers.
func TestExp(t *testing.T) {
	for _, a := range edges() {
		for _, e := range edges() {
			if got, want := group.Exp(a, e), power(a, e); got != want {
				t.Errorf("%d to the power %d: %d, not %d", a, e, got, want)
			}
		}
	}
	r := rand.New(rand.NewSource(6))
	bases, exponents := randoms(r, 1000), randoms(r, 1000)
	for i, a := range bases {
		if got, want := group.Exp(a, exponents[i]), power(a, exponents[i]); got != want {
			t.Errorf("%d to the power %d: %d, not %d", a, exponents[i], got, want)
		}
	}
}

// P4.2: Exp is the product of e factors, multiplied one by one.
func TestExpFactors(t *testing.T) {
	for _, a := range []int{0, 1, 2, 37, -1, -3, p, p - 1, p + 2, -p, math.MinInt, math.MaxInt} {
		product := 1
		for e := range 200 {
			if got := group.Exp(a, e); got != product {
				t.Fatalf("%d to the power %d: %d, not %d", a, e, got, product)
			}
			product = group.Mul(product, a)
		}
	}
}

// P4.2: only a negative exponent is replaced by its residue modulo N, which the base 0 shows.
func TestExpOfZero(t *testing.T) {
	for _, zero := range []int{0, p, -p, 3 * p} {
		for _, c := range []struct{ e, want int }{
			{0, 1}, {1, 0}, {2, 0}, {n, 0}, {n + 1, 0}, {2 * n, 0}, {3 * n, 0}, {math.MaxInt, 0},
			{-1, 0}, {-2, 0}, {1 - n, 0}, {-n, 1}, {-n - 1, 0}, {-2 * n, 1}, {-3 * n, 1}, {math.MinInt, 0},
		} {
			if got := group.Exp(zero, c.e); got != c.want {
				t.Errorf("%d to the power %d: %d, not %d", zero, c.e, got, c.want)
			}
		}
	}
}

// P4.2: the examples of the chapter, and the inverse as a power with the exponent -1.
func TestExpExamples(t *testing.T) {
	inverse, _ := group.Inv(3)
	for _, c := range []struct{ a, e, want int }{
		{2, 61, 1}, {0, 0, 1}, {3, -1, inverse}, {0, n, 0}, {5, 1, 5}, {p + 5, 1, 5}, {-5, 1, p - 5}, {-1, 2, 1}, {-1, math.MaxInt, p - 1}, {-1, math.MinInt, 1},
	} {
		if got := group.Exp(c.a, c.e); got != c.want {
			t.Errorf("%d to the power %d: %d, not %d", c.a, c.e, got, c.want)
		}
	}
}

// P4.3: the residues modulo N, of the integers that the chapter names and of those whose exact results do not fit into an int.
func TestModuloN(t *testing.T) {
	compare(t, n, calculations{group.AddN, group.SubN, group.MulN})
	for _, c := range []struct{ got, want int }{
		{group.MulN(n-1, n-1), 1}, {group.AddN(n-1, 2), 1}, {group.SubN(0, 1), n - 1}, {group.AddN(-1, 0), n - 1},
		{group.AddN(n, n), 0}, {group.SubN(n, 0), 0}, {group.MulN(n, 5), 0}, {group.MulN(-2*n, 1), 0},
		// 2^61 has the residue 2, so that 2^63 has the residue 8.
		{group.AddN(math.MaxInt, 1), 8}, {group.AddN(math.MinInt, math.MinInt), n - 16}, {group.AddN(math.MaxInt, math.MaxInt), 14},
		{group.SubN(math.MinInt, math.MaxInt), n - 15}, {group.SubN(math.MaxInt, math.MinInt), 15}, {group.SubN(0, math.MinInt), 8},
		{group.MulN(math.MinInt, math.MinInt), 64}, {group.MulN(math.MinInt, math.MaxInt), n - 56}, {group.MulN(math.MaxInt, math.MaxInt), 49},
	} {
		if c.got != c.want {
			t.Error(c.got, "not", c.want)
		}
	}
}

// P4.4: a call returns the same again after calls with other arguments.
func TestPure(t *testing.T) {
	all := func(a, b int) [8]int {
		x, ok := group.Inv(a)
		if ok != (a%p != 0) {
			t.Error(a, x, ok)
		}
		return [8]int{group.Add(a, b), group.Sub(a, b), group.Mul(a, b), x, group.Exp(a, b), group.AddN(a, b), group.SubN(a, b), group.MulN(a, b)}
	}
	l := edges()
	first := map[[2]int][8]int{}
	for i, a := range l {
		b := l[len(l)-1-i]
		first[[2]int{a, b}] = all(a, b)
	}
	for arguments, want := range first {
		if got := all(arguments[0], arguments[1]); got != want {
			t.Error(arguments, got, want)
		}
	}
}

// ring checks the laws of a commutative ring for a, b and c.
func ring(t *testing.T, m int, r calculations, a, b, c int) {
	t.Helper()
	if r.add(a, b) != r.add(b, a) || r.mul(a, b) != r.mul(b, a) {
		t.Error("commutative:", m, a, b)
	}
	if r.add(a, r.add(b, c)) != r.add(r.add(a, b), c) || r.mul(a, r.mul(b, c)) != r.mul(r.mul(a, b), c) {
		t.Error("associative:", m, a, b, c)
	}
	if r.mul(a, r.add(b, c)) != r.add(r.mul(a, b), r.mul(a, c)) {
		t.Error("distributive:", m, a, b, c)
	}
	if x := r.add(a, 0); x != r.mul(a, 1) || r.sub(r.add(a, b), b) != x || r.add(r.sub(a, b), b) != x || x < 0 || x >= m {
		t.Error("neutral, or subtraction:", m, a, b)
	}
}

// P4.5: the residues modulo P are a field, those modulo N a commutative ring.
func TestLaws(t *testing.T) {
	r := rand.New(rand.NewSource(7))
	l := append(edges(), randoms(r, 2000)...)
	for range 20000 {
		a, b, c := l[r.Intn(len(l))], l[r.Intn(len(l))], l[r.Intn(len(l))]
		ring(t, p, calculations{group.Add, group.Sub, group.Mul}, a, b, c)
		ring(t, n, calculations{group.AddN, group.SubN, group.MulN}, a, b, c)
	}
	for _, a := range l {
		x, ok := group.Inv(a)
		if !ok {
			continue
		}
		back, _ := group.Inv(x)
		if x < 1 || x >= p || group.Mul(a, x) != 1 || group.Mul(group.Mul(7, a), x) != 7 || back != group.Add(a, 0) {
			t.Error("inverse:", a, x, back)
		}
	}
}

// P4.6: exponents are added and multiplied modulo N.
func TestExponents(t *testing.T) {
	r := rand.New(rand.NewSource(8))
	l := append(edges(), randoms(r, 2000)...)
	for range 3000 {
		a, d, e := l[r.Intn(len(l))], l[r.Intn(len(l))], l[r.Intn(len(l))]
		if a%p == 0 {
			continue
		}
		if x, y := group.Mul(group.Exp(a, d), group.Exp(a, e)), group.Exp(a, group.AddN(d, e)); x != y {
			t.Error("sum:", a, d, e, x, y)
		}
		if x, y := group.Exp(group.Exp(a, d), e), group.Exp(a, group.MulN(d, e)); x != y {
			t.Error("product:", a, d, e, x, y)
		}
	}
}

// P4.6: the power of G is 1 for the multiples of N, and not for N divided by one of its prime factors, so that the order of G is N.
func TestGenerator(t *testing.T) {
	for k := -4; k <= 4; k++ {
		if x := group.Exp(group.G, k*n); x != 1 {
			t.Error(k, x)
		}
	}
	product := 1
	for _, q := range []int{2, 3, 3, 5, 5, 7, 11, 13, 31, 41, 61, 151, 331, 1321} {
		product *= q
		if group.Exp(group.G, n/q) == 1 || group.Exp(group.G, -n/q) == 1 {
			t.Error(q)
		}
	}
	if product != n {
		t.Error("these are not all the prime factors of N:", product)
	}
}
