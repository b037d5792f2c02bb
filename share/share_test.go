package share_test

import (
	"crypto/sha256"
	"encoding/binary"
	"math"
	"math/big"
	"math/rand"
	"slices"
	"strings"
	"sync"
	"testing"

	"agora/api"
	"agora/group"
	"agora/share"
)

const p = group.P

var modulus = big.NewInt(p)

// residue returns the residue modulo P of an integer.
func residue(x *big.Int) int { return int(new(big.Int).Mod(x, modulus).Int64()) }

// coefficient is the chapter's c(i), computed with the library's digest.
func coefficient(seed string, i int) int {
	b := binary.AppendUvarint(nil, uint64(len(seed)))
	b = binary.AppendUvarint(append(b, seed...), uint64(i))
	digest := sha256.Sum256(b)
	return int(binary.BigEndian.Uint64(digest[:8]) / 8 % p)
}

// polynomial returns the coefficients of the chapter's f.
func polynomial(secret, t int, seed string) []int {
	f := []int{secret}
	for i := 1; i < t; i++ {
		f = append(f, coefficient(seed, i))
	}
	return f
}

// value returns the value at x of a polynomial, computed with powers of x that have no limits.
func value(f []int, x int) int {
	sum := new(big.Int)
	for i, c := range f {
		power := new(big.Int).Exp(big.NewInt(int64(x)), big.NewInt(int64(i)), nil)
		sum.Add(sum, power.Mul(power, big.NewInt(int64(c))))
	}
	return residue(sum)
}

// through returns the value at x of the polynomial of the least degree through all shares of l, by the formula of Lagrange.
func through(l []api.Share, x int) int {
	sum := new(big.Int)
	for i, s := range l {
		above, below := big.NewInt(int64(s.Y)), big.NewInt(1)
		for j, other := range l {
			if i != j {
				above.Mul(above, big.NewInt(int64(x-other.X))).Mod(above, modulus)
				below.Mul(below, big.NewInt(int64(s.X-other.X))).Mod(below, modulus)
			}
		}
		sum.Add(sum, above.Mul(above, below.ModInverse(below, modulus)))
	}
	return residue(sum)
}

// on reports whether the polynomial through the first t shares goes through the others.
func on(l []api.Share, t int) bool {
	for _, s := range l[min(t, len(l)):] {
		if through(l[:t], s.X) != s.Y {
			return false
		}
	}
	return true
}

// values returns the least and the greatest integers modulo P, and others.
func values(r *rand.Rand) []int {
	list := []int{0, 1, 2, p / 2, p/2 + 1, p - 2, p - 1, 123456789}
	for range 5 {
		list = append(list, r.Intn(p)>>r.Intn(60))
	}
	return list
}

// notValues returns integers at and beyond the limits of the integers modulo P.
func notValues() []int {
	return []int{-1, -2, -p, 1 - p, -p - 1, p, p + 1, p + 5, 2 * p, 2*p + 1, 1 << 62, math.MaxInt, math.MaxInt - 1, math.MinInt, math.MinInt + 1}
}

// notX returns integers at and beyond the limits of the X of a valid share.
func notX() []int { return append(notValues(), 0) }

// tooSmall returns thresholds below 1.
func tooSmall() []int { return []int{0, -1, -2, -64, math.MinInt, math.MinInt + 1} }

// names returns seeds: the empty one, some whose lengths have two digits to the base 128 and some that do not, and some that are almost equal.
func names() []string {
	list := []string{"", "\x00", "\x00\x00", "s", "seed", "Seed", "seed\x01", "\xff\xfe", "gr\u00fc\u00dfe"}
	for _, length := range []int{32, 64, 127, 128, 500} {
		list = append(list, strings.Repeat("s", length))
	}
	return list
}

// draw returns n valid shares that no polynomial of a low degree need have. Some of their integers are extreme.
func draw(r *rand.Rand, n int) []api.Share {
	l := []api.Share{}
	seen := map[int]bool{0: true}
	for len(l) < n {
		x, y := r.Intn(p), r.Intn(p)
		switch r.Intn(4) {
		case 0:
			x, y = p-1-x%(n+1), p-1-y%2
		case 1:
			x, y = x%(n+2), y%2
		}
		if !seen[x] {
			seen[x] = true
			l = append(l, api.Share{X: x, Y: y})
		}
	}
	return l
}

// fitting returns n valid shares through which a polynomial of a degree less than t goes.
func fitting(r *rand.Rand, n, t int) []api.Share {
	l := draw(r, n)
	f := make([]int, t)
	for i := range f {
		f[i] = r.Intn(p)
	}
	for i, s := range l {
		// The value at x, computed without the large powers, as x is large here.
		y := new(big.Int)
		for j := t - 1; j >= 0; j-- {
			y.Mul(y, big.NewInt(int64(s.X))).Add(y, big.NewInt(int64(f[j]))).Mod(y, modulus)
		}
		l[i].Y = int(y.Int64())
	}
	return l
}

// with returns a copy of l with another share at i.
func with(l []api.Share, i int, s api.Share) []api.Share {
	l = slices.Clone(l)
	l[i] = s
	return l
}

// shuffled returns a copy of l in another order.
func shuffled(r *rand.Rand, l []api.Share) []api.Share {
	l = slices.Clone(l)
	r.Shuffle(len(l), func(i, j int) { l[i], l[j] = l[j], l[i] })
	return l
}

// spoilt calls f with every list that differs from l in one share at an index below n and that is not valid any more.
func spoilt(l []api.Share, n int, f func(spoilt []api.Share)) {
	for i := range n {
		for _, x := range notX() {
			f(with(l, i, api.Share{X: x, Y: l[i].Y}))
		}
		for _, y := range notValues() {
			f(with(l, i, api.Share{X: l[i].X, Y: y}))
		}
		f(with(l, i, api.Share{}))
		for j := range n {
			if j != i {
				f(with(l, i, l[j]))
				f(with(l, i, api.Share{X: l[j].X, Y: l[i].Y}))
			}
		}
	}
}

func joins(t *testing.T, l []api.Share, threshold, want int) {
	t.Helper()
	if got, ok := share.Join(l, threshold); got != want || !ok {
		t.Errorf("Join(%.90v, %d): %d, %v, not %d", l, threshold, got, ok, want)
	}
}

func joinsNot(t *testing.T, l []api.Share, threshold int) {
	t.Helper()
	if got, ok := share.Join(l, threshold); got != 0 || ok {
		t.Errorf("Join(%.90v, %d): %d, %v", l, threshold, got, ok)
	}
}

func fits(t *testing.T, l []api.Share, threshold int, want bool) {
	t.Helper()
	if got := share.Fits(l, threshold); got != want {
		t.Errorf("Fits(%.90v, %d): %v", l, threshold, got)
	}
}

// split returns the shares of a secret that is known to be splittable.
func split(t *testing.T, secret, threshold, n int, seed string) []api.Share {
	t.Helper()
	l, ok := share.Split(secret, threshold, n, seed)
	if !ok || len(l) != n {
		t.Fatalf("Split(%d, %d, %d, %.10q): %d shares, %v", secret, threshold, n, seed, len(l), ok)
	}
	return l
}

// P7.1: shares that were computed by another program.
func TestSplitKnown(t *testing.T) {
	for _, c := range []struct {
		secret, t int
		seed      string
		ys        []int
	}{
		{5, 1, "", []int{5, 5, 5}},
		{5, 2, "", []int{1621997971178374657, 938152933143055358, 254307895107736059}},
		{0, 2, "seed", []int{2262576921303161534, 2219310833392629117, 2176044745482096700, 2132778657571564283}},
		{p - 1, 3, "seed", []int{2038405953294658946, 1322626961358618768, 158506033405573416, 851886178649216841, 1096924387875855092}},
		{123456789, 5, "\x00\xff", []int{1265489234695981485, 1128332465044624241, 1796077724366513699, 1933375669642278663, 1273665600063436001}},
		{1, 3, strings.Repeat("s", 200), []int{2087541086150029787, 104724779339641129, 969080107209915880}},
	} {
		l := split(t, c.secret, c.t, len(c.ys), c.seed)
		for i, y := range c.ys {
			if want := (api.Share{X: i + 1, Y: y}); l[i] != want {
				t.Errorf("%d, %d, %.10q: share %v, not %v", c.secret, c.t, c.seed, l[i], want)
			}
		}
	}
	l := split(t, 7, 64, 64, "x")
	for x, y := range map[int]int{1: 1940602160723669911, 32: 820484647309776218, 63: 588933622096262709, 64: 2057749014618150942} {
		if want := (api.Share{X: x, Y: y}); l[x-1] != want {
			t.Errorf("64 of 64: share %v, not %v", l[x-1], want)
		}
	}
}

// P7.1: the shares are those of the polynomial of the secret, the threshold and the seed, for all thresholds up to n and all n up to 64.
func TestSplit(t *testing.T) {
	check := func(secret, threshold, n int, seed string) {
		f := polynomial(secret, threshold, seed)
		for i, s := range split(t, secret, threshold, n, seed) {
			if want := (api.Share{X: i + 1, Y: value(f, i+1)}); s != want {
				t.Fatalf("Split(%d, %d, %d, %.10q): %v, not %v", secret, threshold, n, seed, s, want)
			}
		}
	}
	r := rand.New(rand.NewSource(1))
	for _, seed := range names() {
		for _, secret := range values(r) {
			for _, c := range [][2]int{{1, 1}, {1, 2}, {2, 2}, {2, 3}, {3, 3}, {3, 7}} {
				check(secret, c[0], c[1], seed)
			}
		}
	}
	for n := 1; n <= 64; n++ {
		for _, threshold := range []int{1, 2, 1 + n/2, n - 1, n} {
			if threshold >= 1 && threshold <= n {
				check(r.Intn(p), threshold, n, names()[n%len(names())])
			}
		}
	}
}

// P7.1: with a threshold of 1 every share is the secret; 1 and n are in range, and 64 is the greatest n.
func TestSplitLimits(t *testing.T) {
	for _, secret := range []int{0, 1, p - 1} {
		for _, n := range []int{1, 2, 64} {
			for i, s := range split(t, secret, 1, n, "seed") {
				if want := (api.Share{X: i + 1, Y: secret}); s != want {
					t.Errorf("%d, 1 of %d: %v", secret, n, s)
				}
			}
			split(t, secret, n, n, "seed")
		}
	}
}

// P7.1: no shares, and false, for a threshold, a number of shares or a secret that is out of range.
func TestSplitFails(t *testing.T) {
	fails := func(secret, threshold, n int) {
		for _, seed := range []string{"", "seed"} {
			if l, ok := share.Split(secret, threshold, n, seed); len(l) != 0 || ok {
				t.Errorf("Split(%d, %d, %d, %q): %d shares, %v", secret, threshold, n, seed, len(l), ok)
			}
		}
	}
	for _, n := range []int{1, 2, 3, 63, 64} {
		for _, threshold := range append(tooSmall(), n+1, n+2, 65, 1000, math.MaxInt) {
			fails(5, threshold, n)
		}
		for _, secret := range notValues() {
			fails(secret, 1, n)
			fails(secret, n, n)
		}
	}
	for _, n := range append(tooSmall(), 65, 66, 128, 1<<32, 1<<32+1, math.MaxInt) {
		for _, threshold := range []int{1, 2, 64, 65, n} {
			fails(5, threshold, n)
		}
	}
	fails(-1, 0, 65)
}

// P7.1: the seed determines every coefficient but the lowest one, whatever the secret is.
func TestSplitSeeds(t *testing.T) {
	seen := map[int]bool{}
	for _, seed := range names() {
		one, two := split(t, 0, 2, 2, seed), split(t, 1000, 2, 2, seed)
		if group.Sub(two[0].Y, one[0].Y) != 1000 {
			t.Errorf("%.10q: the coefficients depend on the secret", seed)
		}
		if seen[one[0].Y] {
			t.Errorf("%.10q repeats a coefficient", seed)
		}
		seen[one[0].Y] = true
	}
}

// P7.2: secrets that were computed by another program, for shares that no Split returns.
func TestJoinKnown(t *testing.T) {
	joins(t, []api.Share{{X: p - 1, Y: p - 1}, {X: 1, Y: 0}}, 2, 1152921504606846975)
	joins(t, []api.Share{{X: 2, Y: 3}, {X: p - 2, Y: 3}, {X: 7, Y: p - 1}}, 3, 1485987717048824994)
	joins(t, []api.Share{{X: 1e18, Y: 1e18}, {X: 5, Y: 0}, {X: p - 1, Y: 1}, {X: 1 << 60, Y: 1 << 60}}, 4, 576784617564107562)
	joins(t, []api.Share{{X: 1, Y: 0}, {X: 2, Y: 0}, {X: 3, Y: 0}, {X: 4, Y: 0}}, 4, 0)
	joins(t, []api.Share{{X: 9, Y: 8}}, 1, 8)
}

// P7.2: Join returns the value at 0 of the polynomial through the first t shares; the other ones are ignored, also if they are not valid.
func TestJoin(t *testing.T) {
	r := rand.New(rand.NewSource(2))
	for n := 1; n <= 70; n++ {
		l := draw(r, n)
		for _, threshold := range []int{1, 2, 3, 1 + n/2, n - 1, n} {
			if threshold < 1 || threshold > n {
				continue
			}
			want := through(l[:threshold], 0)
			joins(t, l, threshold, want)
			joins(t, l[:threshold], threshold, want)
			joins(t, shuffled(r, l[:threshold]), threshold, want)
			joins(t, append(slices.Clone(l[:threshold]), l[0]), threshold, want)
			joins(t, append(slices.Clone(l[:threshold]), api.Share{}, api.Share{X: p, Y: p}, api.Share{X: l[0].X, Y: 1}), threshold, want)
		}
	}
	for _, x := range []int{1, 2, p - 2, p - 1} {
		for _, y := range []int{0, 1, p - 2, p - 1} {
			joins(t, []api.Share{{X: x, Y: y}}, 1, y)
		}
	}
}

// P7.2: no secret for a threshold that is below 1 or that exceeds the number of shares.
func TestJoinThreshold(t *testing.T) {
	r := rand.New(rand.NewSource(3))
	for n := range 10 {
		l := draw(r, n)
		for _, threshold := range append(tooSmall(), n+1, n+2, 65, math.MaxInt) {
			joinsNot(t, l, threshold)
			// What is beyond the length of a slice is not a share.
			joinsNot(t, append(l, draw(r, 3)...)[:n], threshold)
		}
	}
	joinsNot(t, nil, 1)
	joinsNot(t, nil, 0)
}

// P7.2: no secret if one of the first t shares makes them invalid; behind them it does not matter.
func TestJoinInvalid(t *testing.T) {
	r := rand.New(rand.NewSource(4))
	for n := 1; n <= 5; n++ {
		l := draw(r, n)
		spoilt(l, n, func(bad []api.Share) {
			joinsNot(t, bad, n)
			joinsNot(t, append(slices.Clone(bad), draw(r, 2)...), n)
		})
		want := through(l, 0)
		more := append(slices.Clone(l), l[0])
		for _, s := range []api.Share{{}, {X: p, Y: 1}, {X: -1, Y: 1}, {X: 1, Y: p}, {X: 1, Y: -1}, l[0], l[n-1], {X: l[n-1].X, Y: 3}} {
			joins(t, with(more, n, s), n, want)
			joinsNot(t, with(more, n, s), n+2)
		}
		joinsNot(t, more, n+1)
	}
}

// P7.3: Fits reports whether the polynomial through the first t shares goes through all of them.
func TestFits(t *testing.T) {
	r := rand.New(rand.NewSource(5))
	for n := 1; n <= 12; n++ {
		for threshold := 1; threshold <= n; threshold++ {
			l := fitting(r, n, threshold)
			for u := 1; u <= n; u++ {
				fits(t, l, u, on(l, u))
				fits(t, shuffled(r, l), u, on(l, u))
			}
			fits(t, l, threshold, true)
			fits(t, l, threshold+1, true)
			other := draw(r, n)
			fits(t, other, threshold, on(other, threshold))
		}
	}
}

// P7.3: valid shares that are not more than t always fit, also no shares at all.
func TestFitsFew(t *testing.T) {
	r := rand.New(rand.NewSource(6))
	for n := range 70 {
		l := draw(r, n)
		for _, threshold := range []int{n, n + 1, n + 2, 64, 65, 1000, math.MaxInt - 1, math.MaxInt} {
			if threshold >= 1 && threshold >= n {
				fits(t, l, threshold, true)
			}
		}
		for _, threshold := range tooSmall() {
			fits(t, l, threshold, false)
		}
	}
	fits(t, nil, 1, true)
	fits(t, nil, 0, false)
}

// P7.3: shares that are not valid do not fit, wherever the wrong one is and whatever t is.
func TestFitsInvalid(t *testing.T) {
	r := rand.New(rand.NewSource(7))
	for n := 1; n <= 5; n++ {
		for threshold := 1; threshold <= n; threshold++ {
			l := fitting(r, n, threshold)
			spoilt(l, n, func(bad []api.Share) {
				for _, u := range []int{1, threshold, n, n + 1, math.MaxInt} {
					fits(t, bad, u, false)
				}
			})
			// One more share, of the same X as one of the others: with the same Y too it would be on the polynomial.
			for _, s := range l {
				for _, u := range []int{1, threshold, n, n + 1, n + 2, math.MaxInt} {
					fits(t, append(slices.Clone(l), s), u, false)
					fits(t, append([]api.Share{{X: s.X, Y: group.Add(s.Y, 1)}}, l...), u, false)
				}
			}
		}
	}
	// A share at 0 with the secret itself is on the polynomial, but is not valid; nor are the residues of shares.
	l := split(t, 5, 2, 4, "seed")
	for _, s := range []api.Share{{X: 0, Y: 5}, {X: p, Y: 5}, {X: p + 4, Y: l[3].Y}, {X: 4, Y: l[3].Y + p}, {X: 4, Y: l[3].Y - p}, {X: 4 - p, Y: l[3].Y}} {
		fits(t, with(l, 3, s), 2, false)
	}
}

// The examples of the chapter (P7.1 to P7.3).
func TestExamples(t *testing.T) {
	if l, ok := share.Split(5, 1, 3, ""); !slices.Equal(l, []api.Share{{X: 1, Y: 5}, {X: 2, Y: 5}, {X: 3, Y: 5}}) || !ok {
		t.Error(l, ok)
	}
	joins(t, []api.Share{{X: 1, Y: 3}, {X: 2, Y: 5}}, 2, 1)
	joins(t, []api.Share{{X: 2, Y: 5}, {X: 1, Y: 3}}, 2, 1)
	joinsNot(t, []api.Share{{X: 1, Y: 3}}, 2)
	joinsNot(t, []api.Share{{X: 1, Y: 3}, {X: 1, Y: 3}}, 2)
	joinsNot(t, []api.Share{{X: 0, Y: 3}}, 1)
	fits(t, []api.Share{{X: 1, Y: 3}, {X: 2, Y: 5}, {X: 3, Y: 7}}, 2, true)
	fits(t, []api.Share{{X: 1, Y: 3}, {X: 2, Y: 5}, {X: 3, Y: 8}}, 2, false)
	fits(t, []api.Share{{X: 1, Y: 3}, {X: 2, Y: 5}, {X: 3, Y: 8}}, 3, true)
	fits(t, nil, 1, true)
	fits(t, nil, 0, false)
}

// P7.4: no function changes its list, neither the shares nor what is beyond its length.
func TestArguments(t *testing.T) {
	r := rand.New(rand.NewSource(8))
	for n := range 10 {
		for threshold := -1; threshold <= n+1; threshold++ {
			for _, l := range [][]api.Share{draw(r, n+2), fitting(r, n+2, max(threshold, 1)), make([]api.Share, n+2)} {
				before := slices.Clone(l)
				share.Join(l[:n], threshold)
				share.Fits(l[:n], threshold)
				if !slices.Equal(l, before) {
					t.Fatalf("%v became %v with the threshold %d", before, l, threshold)
				}
			}
		}
	}
}

// P7.4: a list of Split does not share its memory with that of another call.
func TestResults(t *testing.T) {
	for _, threshold := range []int{1, 2, 5} {
		first := split(t, 7, threshold, 5, "seed")
		kept := slices.Clone(first)
		second := split(t, 7, threshold, 5, "seed")
		for i := range first {
			first[i] = api.Share{X: -1, Y: -1}
		}
		_ = append(first[:1], api.Share{X: -2})
		if third := split(t, 7, threshold, 5, "seed"); !slices.Equal(second, kept) || !slices.Equal(third, kept) {
			t.Error(second, third, "not", kept)
		}
	}
}

// P7.4: each function returns the same again, after calls with other arguments, for equal arguments in other memory, and in several goroutines at once.
func TestPure(t *testing.T) {
	type result struct {
		l           []api.Share
		split, join bool
		secret      int
		fits        bool
	}
	all := func(secret, threshold, n int, seed string, l []api.Share) result {
		var r result
		r.l, r.split = share.Split(secret, threshold, n, seed)
		r.secret, r.join = share.Join(l, threshold)
		r.fits = share.Fits(l, threshold)
		return r
	}
	type arguments struct {
		secret, t, n int
		seed         string
		l            []api.Share
	}
	r := rand.New(rand.NewSource(9))
	var list []arguments
	var first []result
	for i, seed := range names() {
		for _, secret := range append(values(r), -1, p) {
			n := 1 + r.Intn(12)
			a := arguments{secret, r.Intn(n + 2), n, seed, fitting(r, n, 1+i%n)}
			list = append(list, a)
			first = append(first, all(a.secret, a.t, a.n, a.seed, a.l))
		}
	}
	var workers sync.WaitGroup
	for range 4 {
		workers.Go(func() {
			for i, a := range list {
				got, want := all(a.secret, a.t, a.n, strings.Clone(a.seed), slices.Clone(a.l)), first[i]
				if !slices.Equal(got.l, want.l) || got.split != want.split || got.join != want.join || got.secret != want.secret || got.fits != want.fits {
					t.Errorf("%d, %d, %d, %.10q: another result", a.secret, a.t, a.n, a.seed)
				}
			}
		})
	}
	workers.Wait()
}

// P7.5: any t shares of a Split, in any order, are joined to the secret, and the shares fit.
func TestSplitJoin(t *testing.T) {
	r := rand.New(rand.NewSource(10))
	for _, secret := range values(r) {
		for _, c := range [][2]int{{1, 1}, {1, 5}, {2, 5}, {3, 5}, {5, 5}, {2, 64}, {33, 64}, {63, 64}, {64, 64}} {
			threshold, n := c[0], c[1]
			l := split(t, secret, threshold, n, names()[r.Intn(len(names()))])
			for range 5 {
				m := shuffled(r, l)
				joins(t, m[:threshold], threshold, secret)
				joins(t, m, threshold, secret)
				fits(t, m, threshold, true)
			}
			joins(t, l, n, secret)
		}
	}
	// All choices of 3 of 6 shares, in the two orders that are most different.
	l := split(t, 77, 3, 6, "seed")
	for i := range 6 {
		for j := range i {
			for k := range j {
				joins(t, []api.Share{l[i], l[j], l[k]}, 3, 77)
				joins(t, []api.Share{l[k], l[j], l[i]}, 3, 77)
			}
		}
	}
}

// P7.5: more than t shares do not fit any more if one Y, wherever it is, is changed.
func TestChanged(t *testing.T) {
	r := rand.New(rand.NewSource(11))
	for n := 2; n <= 9; n++ {
		for threshold := 1; threshold < n; threshold++ {
			l := split(t, r.Intn(p), threshold, n, "seed")
			for i, s := range l {
				for _, d := range []int{1, 2, p - 1, r.Intn(p-1) + 1} {
					changed := with(l, i, api.Share{X: s.X, Y: group.Add(s.Y, d)})
					fits(t, changed, threshold, false)
					fits(t, shuffled(r, changed), threshold, false)
					fits(t, changed, n, true)
				}
			}
		}
	}
	l := split(t, 5, 63, 64, "seed")
	for i, s := range l {
		fits(t, with(l, i, api.Share{X: s.X, Y: group.Add(s.Y, 1)}), 63, false)
	}
}

// P7.6: t - 1 shares and another X leave every secret possible, each with one Y only.
func TestSecrecy(t *testing.T) {
	r := rand.New(rand.NewSource(12))
	for threshold := 1; threshold <= 8; threshold++ {
		l := draw(r, threshold)
		known, x := l[1:], l[0].X
		for _, secret := range values(r) {
			// The one Y is that of the polynomial through the known shares that is the secret at 0.
			y := through(append(slices.Clone(known), api.Share{X: 0, Y: secret}), x)
			for i := range threshold {
				joins(t, slices.Insert(slices.Clone(known), i, api.Share{X: x, Y: y}), threshold, secret)
			}
			for _, other := range []int{0, 1, p - 1, y + 1, y - 1, r.Intn(p)} {
				if other == y || other < 0 || other >= p {
					continue
				}
				if got, ok := share.Join(append(slices.Clone(known), api.Share{X: x, Y: other}), threshold); got == secret || !ok {
					t.Errorf("%d shares and {%d %d}: %d, %v", threshold-1, x, other, got, ok)
				}
			}
		}
	}
}

// P7.7: the sums of corresponding shares are joined to the sum of the secrets, modulo P.
func TestSums(t *testing.T) {
	r := rand.New(rand.NewSource(13))
	add := func(a, b []api.Share) []api.Share {
		sums := slices.Clone(a)
		for i := range sums {
			sums[i].Y = group.Add(a[i].Y, b[i].Y)
		}
		return sums
	}
	for _, a := range values(r) {
		for _, b := range values(r) {
			l, m := split(t, a, 3, 5, "one"), split(t, b, 3, 5, "two")
			joins(t, add(l, m), 3, residue(new(big.Int).Add(big.NewInt(int64(a)), big.NewInt(int64(b)))))
			fits(t, add(l, m), 3, true)
		}
	}
	for n := 1; n <= 20; n++ {
		l := draw(r, n)
		m := slices.Clone(l)
		for i := range m {
			m[i].Y = r.Intn(p)
		}
		one, _ := share.Join(l, n)
		two, _ := share.Join(m, n)
		joins(t, add(l, m), n, group.Add(one, two))
	}
}
