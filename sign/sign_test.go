package sign_test

import (
	"crypto/sha256"
	"encoding/binary"
	"math"
	"math/big"
	"math/rand"
	"slices"
	"strings"
	"testing"

	"agora/api"
	"agora/group"
	"agora/sign"
)

const (
	p = group.P
	n = group.N
)

// text encodes a string, and number an integer, as layer 2 does; a negative integer has no encoding.
func text(s string) []byte { return append(number(len(s)), s...) }

func number(i int) []byte {
	if i < 0 {
		return nil
	}
	return binary.AppendUvarint(nil, uint64(i))
}

// hash is the chapter's hash, computed with the library's digest.
func hash(parts ...[]byte) int {
	var all []byte
	for _, part := range parts {
		all = append(all, part...)
	}
	digest := sha256.Sum256(all)
	return int(binary.BigEndian.Uint64(digest[:8]) / 8)
}

func reduce(h int) int { return 1 + h%(n-1) }

func challenge(r, y int, m string) int {
	return hash(text("sign"), number(r), number(y), text(m)) % n
}

func exact(i int) *big.Int { return big.NewInt(int64(i)) }

// power returns the residue modulo P of a power with an exponent that is not negative.
func power(a, e int) int {
	return int(new(big.Int).Exp(exact(a), exact(e), exact(p)).Int64())
}

// product returns the residue modulo m of a * b + c.
func product(a, b, c, m int) int {
	x := new(big.Int).Mul(exact(a), exact(b))
	return int(x.Mod(x.Add(x, exact(c)), exact(m)).Int64())
}

func keyOf(x int) api.Key { return api.Key{Secret: x, Public: power(group.G, x)} }

// signWith returns the signature with the nonce u for a public key y, whose residue modulo P is the generator to the power of x; y itself may be out of range.
func signWith(u, x, y int, m string) api.Sig {
	e := challenge(power(group.G, u), y, m)
	return api.Sig{E: e, S: product(e, x, u, n)}
}

// signature is the signature that P5.2 defines, for a right key.
func signature(k api.Key, m string) api.Sig {
	u := reduce(hash(text("nonce"), number(k.Secret), text(m)))
	return signWith(u, k.Secret, k.Public, m)
}

// accepted is P5.3.
func accepted(y int, m string, s api.Sig) bool {
	if y < 1 || y > p-1 || s.E < 0 || s.E > n-1 || s.S < 0 || s.S > n-1 {
		return false
	}
	return s.E == challenge(product(power(group.G, s.S), power(y, n-s.E), 0, p), y, m)
}

// extremes are integers at and beyond the limits of secrets, public keys and parts of signatures.
func extremes() []int {
	return []int{0, -1, 1, 2, n / 2, n - 2, n - 1, n, p, p + 1, 2 * n, 2 * p, 3*n + 1, -n, -p, 1 - n, -2 * n, 1 << 61, 1 << 62, math.MaxInt, math.MaxInt - 1, math.MinInt, math.MinInt + 1}
}

// messages returns the empty one, some whose lengths have two digits to the base 128 and some that do not, and some that are almost equal.
func messages() []string {
	list := []string{"", "\x00", "\x00\x00", "hello", "hello ", "Hello", "\xff\xfe", "gr\u00fc\u00dfe", "sign", "\x05hello"}
	for _, length := range []int{1, 63, 64, 127, 128, 129, 500, 20000} {
		list = append(list, strings.Repeat("m", length))
	}
	return list
}

// secrets returns the least and the greatest secrets, the one of the public key P - 1, and others, without repetitions.
func secrets() []int {
	list := append([]int{1, 2, 3, 127, 128, n / 3, n / 2, n/2 + 1, n - 2, n - 1}, randoms(5, 10, 1, n)...)
	slices.Sort(list)
	return slices.Compact(list)
}

// randoms returns integers of all magnitudes from low to high - 1.
func randoms(seed int64, count, low, high int) []int {
	r := rand.New(rand.NewSource(seed))
	out := make([]int, count)
	for i := range out {
		out[i] = low + r.Intn(high-low)>>r.Intn(60)
	}
	return out
}

// P5.1: keys of seeds that were computed by another program.
func TestKeyKnown(t *testing.T) {
	for seed, want := range map[string]api.Key{
		"":                       {Secret: 1093897313203562708, Public: 1928973548823902141},
		"a":                      {Secret: 361080046605472372, Public: 2287805972299522828},
		"alice":                  {Secret: 892677527783957395, Public: 235974044276982056},
		"\x00\xff":               {Secret: 804454692569520002, Public: 1645630735243064517},
		strings.Repeat("x", 200): {Secret: 89672412085470133, Public: 464277132582863911},
	} {
		if got := sign.Key(seed); got != want {
			t.Errorf("%.10q: %v, not %v", seed, got, want)
		}
	}
}

// P5.1: Key follows its definition, its keys are right, and different seeds have different keys.
func TestKey(t *testing.T) {
	seeds := messages()
	for i := range 300 {
		seeds = append(seeds, strings.Repeat("s", i), strings.Repeat("\xff", i+1))
	}
	seen := map[api.Key]string{}
	for _, seed := range seeds {
		got := sign.Key(seed)
		if want := keyOf(reduce(hash(text("key"), text(seed)))); got != want {
			t.Errorf("%.10q: %v, not %v", seed, got, want)
		}
		if !sign.Right(got) || sign.Of(got.Secret) != got {
			t.Errorf("%.10q: %v is not right", seed, got)
		}
		if other, twice := seen[got]; twice && other != seed {
			t.Errorf("%.10q and %.10q have one key", seed, other)
		}
		seen[got] = seed
	}
}

// P5.1: Of returns the right key with a secret, from 1 to N - 1.
func TestOf(t *testing.T) {
	for _, x := range append(secrets(), randoms(6, 300, 1, n)...) {
		if got, want := sign.Of(x), keyOf(x); got != want || !sign.Right(got) {
			t.Errorf("%d: %v, not %v", x, got, want)
		}
	}
	inverse := int(new(big.Int).ModInverse(exact(group.G), exact(p)).Int64())
	for x, want := range map[int]int{1: 37, 2: 1369, n / 2: p - 1, n - 1: inverse} {
		if got := sign.Of(x); got != (api.Key{Secret: x, Public: want}) {
			t.Errorf("%d: %v, not %d", x, got, want)
		}
	}
}

// P5.1: a secret below 1 or above N - 1 has no key, whatever the power of the generator is.
func TestOfNone(t *testing.T) {
	for _, x := range extremes() {
		if x >= 1 && x <= n-1 {
			continue
		}
		if got := sign.Of(x); got != (api.Key{}) {
			t.Error(x, got)
		}
		for _, y := range []int{group.Exp(group.G, x), 0, 1, group.G} {
			if sign.Right(api.Key{Secret: x, Public: y}) {
				t.Error(x, y, "is right")
			}
		}
	}
}

// wrongKeys returns keys that are not right.
func wrongKeys() []api.Key {
	list := []api.Key{{}, {Secret: 5}, {Public: 1}, {Public: 37}, {Secret: 37, Public: 1}, {Secret: n, Public: 1}, {Secret: n + 1, Public: 37}, {Secret: -1, Public: keyOf(n - 1).Public}, {Secret: 1 - n, Public: 37}}
	for _, x := range secrets() {
		k := keyOf(x)
		list = append(list, api.Key{Secret: x}, api.Key{Public: k.Public}, api.Key{Secret: -x, Public: k.Public}, api.Key{Secret: x, Public: -k.Public})
		for _, y := range []int{k.Public + 1, k.Public - 1, p - k.Public, k.Public + p, k.Public - p, k.Public + 2*p, k.Public - 2*p} {
			list = append(list, api.Key{Secret: x, Public: y})
		}
		for _, z := range []int{x + n, x - n, x + 2*n, x + 3*n, x - 2*n} {
			list = append(list, api.Key{Secret: z, Public: k.Public})
		}
	}
	for _, x := range extremes() {
		for _, y := range extremes() {
			if x < 1 || x > n-1 || y != power(group.G, x) {
				list = append(list, api.Key{Secret: x, Public: y})
			}
		}
	}
	return list
}

// P5.1: a key whose secret is out of range, or whose public key is not that of its secret, is not right.
func TestRightWrong(t *testing.T) {
	for _, k := range wrongKeys() {
		if sign.Right(k) {
			t.Error(k)
		}
	}
}

// P5.2: signatures that were computed by another program.
func TestSignKnown(t *testing.T) {
	for _, c := range []struct {
		secret  int
		message string
		want    api.Sig
	}{
		{361080046605472372, "", api.Sig{E: 901225786207885306, S: 2010165175715666156}},
		{361080046605472372, "hello", api.Sig{E: 1639541138904410090, S: 82534835673623458}},
		{1, "", api.Sig{E: 1647522505794137179, S: 1841669207238924390}},
		{1, "hello", api.Sig{E: 1149279979322955807, S: 2124939587823875306}},
		{n - 1, "\x00\xff", api.Sig{E: 467665239770583531, S: 1910200498275617909}},
		{1093897313203562708, strings.Repeat("x", 300), api.Sig{E: 253148014341971498, S: 485082768052671217}},
	} {
		k := sign.Of(c.secret)
		if got := sign.Sign(k, c.message); got != c.want {
			t.Errorf("%d, %.10q: %v, not %v", c.secret, c.message, got, c.want)
		}
		if !sign.Verify(k.Public, c.message, c.want) {
			t.Errorf("%d, %.10q: not accepted", c.secret, c.message)
		}
	}
}

// P5.2: Sign follows its definition, and its signatures differ for each key and message.
func TestSign(t *testing.T) {
	seen := map[api.Sig]bool{}
	for _, x := range secrets() {
		for _, m := range messages() {
			k := keyOf(x)
			got := sign.Sign(k, m)
			if want := signature(k, m); got != want {
				t.Errorf("%d, %.10q: %v, not %v", x, m, got, want)
			}
			seen[got] = true
		}
	}
	if len(seen) != len(secrets())*len(messages()) {
		t.Error("some signatures are equal:", len(seen))
	}
}

// P5.2: a key that is not right does not sign.
func TestSignWrongKey(t *testing.T) {
	for _, k := range wrongKeys() {
		for _, m := range []string{"", "hello"} {
			if got := sign.Sign(k, m); got != (api.Sig{}) {
				t.Error(k, m, got)
			}
		}
	}
}

// P5.3 and P5.5: what Sign returns is accepted for the same message, for all secrets and messages.
func TestAccepted(t *testing.T) {
	for i, x := range append(secrets(), randoms(7, 300, 1, n)...) {
		m := messages()[i%len(messages())]
		k := sign.Of(x)
		if s := sign.Sign(k, m); !sign.Verify(k.Public, m, s) || !accepted(k.Public, m, s) {
			t.Errorf("%d, %.10q: not accepted", x, m)
		}
	}
	if k := sign.Key(""); !sign.Verify(k.Public, "", sign.Sign(k, "")) {
		t.Error("the empty seed and the empty message")
	}
}

// P5.3: a signature of another message, or by another key, is not accepted.
func TestOthers(t *testing.T) {
	for _, x := range secrets() {
		for _, m := range messages() {
			s := sign.Sign(sign.Of(x), m)
			for _, other := range messages() {
				if got := sign.Verify(sign.Of(x).Public, other, s); got != (other == m) {
					t.Errorf("%d, signed %.10q, verified %.10q: %v", x, m, other, got)
				}
			}
			for _, y := range secrets() {
				if got := sign.Verify(sign.Of(y).Public, m, s); got != (x == y) {
					t.Errorf("%.10q, signed by %d, verified for %d: %v", m, x, y, got)
				}
			}
		}
	}
	if sign.Verify(sign.Key("b").Public, "hello", sign.Sign(sign.Key("a"), "hello")) {
		t.Error("the example of the chapter")
	}
}

// P5.3: the nonce may be any, not only the one that Sign chooses.
func TestOtherNonces(t *testing.T) {
	for i, u := range append([]int{0, 1, 2, n / 2, n - 1}, randoms(8, 100, 0, n)...) {
		x := secrets()[i%len(secrets())]
		m := messages()[i%len(messages())]
		if k := keyOf(x); !sign.Verify(k.Public, m, signWith(u, x, k.Public, m)) {
			t.Errorf("%d, %.10q, nonce %d: not accepted", x, m, u)
		}
	}
}

// P5.3: the least and the greatest public key, and the least and the greatest S, are in range. The order of the public key 1 is 1, so that there S is the nonce; the order of P - 1 is 2.
func TestLimitsAreIncluded(t *testing.T) {
	for _, s := range []int{0, 1, n - 1} {
		for _, m := range messages() {
			if !sign.Verify(1, m, api.Sig{E: challenge(power(group.G, s), 1, m), S: s}) {
				t.Errorf("public key 1, S %d, %.10q", s, m)
			}
		}
	}
	for _, m := range messages() {
		for u := range 20 {
			if !sign.Verify(p-1, m, signWith(u, n/2, p-1, m)) {
				t.Errorf("public key P - 1, nonce %d, %.10q", u, m)
			}
		}
	}
}

// P5.3: an E or an S that is out of range is not accepted, though its residue is that of a valid signature.
func TestOutOfRange(t *testing.T) {
	type signed struct {
		public int
		sig    api.Sig
	}
	for _, m := range messages() {
		var list []signed
		for _, x := range secrets() {
			list = append(list, signed{keyOf(x).Public, signature(keyOf(x), m)})
		}
		for _, s := range []int{0, n - 1} {
			list = append(list, signed{1, api.Sig{E: challenge(power(group.G, s), 1, m), S: s}})
		}
		for _, v := range list {
			if !sign.Verify(v.public, m, v.sig) {
				t.Errorf("%v, %.10q: not accepted", v, m)
			}
			for _, d := range []int{n, -n, 2 * n, -2 * n, -3 * n} {
				e, s := api.Sig{E: v.sig.E + d, S: v.sig.S}, api.Sig{E: v.sig.E, S: v.sig.S + d}
				both := api.Sig{E: e.E, S: s.S}
				if sign.Verify(v.public, m, e) || sign.Verify(v.public, m, s) || sign.Verify(v.public, m, both) {
					t.Errorf("%v, %.10q: accepted with %d added", v, m, d)
				}
			}
		}
	}
}

// P5.3: a public key that is a multiple of P is not accepted. Its powers are 0, so that anybody could compute the challenge.
func TestPublicZero(t *testing.T) {
	for k := -4; k <= 4; k++ {
		for _, m := range messages() {
			for _, s := range []int{0, 1, n - 1} {
				for _, y := range []int{k * p, 0} {
					for _, r := range []int{0, 1, power(group.G, s)} {
						if sign.Verify(k*p, m, api.Sig{E: challenge(r, y, m), S: s}) {
							t.Errorf("public key %d, S %d, r %d, %.10q", k*p, s, r, m)
						}
					}
				}
			}
		}
	}
}

// P5.3: a public key beyond the range is not accepted, though its residue is that of the signer, whether the challenge names the one or the other.
func TestPublicOutOfRange(t *testing.T) {
	for _, x := range append(secrets(), n) {
		right := keyOf(x).Public
		for _, k := range []int{-4, -3, -2, -1, 1, 2, 3} {
			wrong := right + k*p
			for _, m := range []string{"", "hello"} {
				u := reduce(hash(text("nonce"), number(x), text(m)))
				if sign.Verify(wrong, m, signWith(u, x, wrong, m)) || sign.Verify(wrong, m, signWith(u, x, right, m)) {
					t.Errorf("secret %d, public key %d, %q", x, wrong, m)
				}
			}
		}
	}
}

// P5.3: Verify decides by its definition, for signatures that were changed a little and for extreme ones.
func TestVerify(t *testing.T) {
	check := func(y int, m string, s api.Sig) {
		if got, want := sign.Verify(y, m, s), accepted(y, m, s); got != want {
			t.Errorf("%d, %.10q, %v: %v, not %v", y, m, s, got, want)
		}
	}
	for _, m := range []string{"", "hello"} {
		for _, y := range extremes() {
			for _, e := range extremes() {
				for _, s := range extremes() {
					check(y, m, api.Sig{E: e, S: s})
				}
			}
		}
		for _, x := range secrets() {
			y, s := keyOf(x).Public, signature(keyOf(x), m)
			for d := -3; d <= 3; d++ {
				check(y+d, m, s)
				check(y, m, api.Sig{E: s.E + d, S: s.S})
				check(y, m, api.Sig{E: s.E, S: s.S + d})
			}
			for _, z := range []api.Sig{{}, {E: s.E}, {S: s.S}, {E: s.S, S: s.E}, {E: n - s.E, S: s.S}, {E: s.E, S: n - s.S}, {E: -s.E, S: s.S}, {E: s.E, S: -s.S}} {
				check(y, m, z)
			}
		}
	}
}

// P5.4: a call returns the same again after calls with other arguments, and for equal strings in other memory.
func TestPure(t *testing.T) {
	type result struct {
		key, of   api.Key
		right     bool
		signature api.Sig
		accepted  bool
	}
	all := func(x int, m string) result {
		k := sign.Key(m)
		of := sign.Of(x)
		s := sign.Sign(of, m)
		return result{k, of, sign.Right(of), s, sign.Verify(of.Public, m, s)}
	}
	type arguments struct {
		x int
		m string
	}
	first := map[arguments]result{}
	for _, x := range append(secrets(), extremes()...) {
		for _, m := range messages() {
			first[arguments{x, m}] = all(x, m)
		}
	}
	for a, want := range first {
		if got := all(a.x, strings.Clone(a.m)); got != want {
			t.Errorf("%d, %.10q: %v, not %v", a.x, a.m, got, want)
		}
	}
}

// P5.6: one signature is accepted for two messages only if their challenges are equal, and so they are: for each message that it is accepted for, the challenge is its E.
func TestTwoMessages(t *testing.T) {
	for _, x := range secrets() {
		k := sign.Of(x)
		for _, m := range messages() {
			s := sign.Sign(k, m)
			r := product(power(group.G, s.S), power(k.Public, n-s.E), 0, p)
			for _, other := range messages() {
				if got, want := sign.Verify(k.Public, other, s), challenge(r, k.Public, other) == s.E; got != want {
					t.Errorf("%d, %.10q, %.10q: %v, not %v", x, m, other, got, want)
				}
			}
		}
	}
}

// P5.6: with the same E, another S is accepted only if the challenge of the integer r that it gives, which is another one, is E as well.
func TestTwoAnswers(t *testing.T) {
	for _, x := range secrets() {
		k := sign.Of(x)
		m := messages()[x%len(messages())]
		s := sign.Sign(k, m)
		r := product(power(group.G, s.S), power(k.Public, n-s.E), 0, p)
		for _, other := range append([]int{0, 1, n / 2, n - 1, group.AddN(s.S, 1), group.SubN(s.S, 1), group.AddN(s.S, n/2)}, randoms(int64(x), 30, 0, n)...) {
			if other == s.S {
				continue
			}
			r2 := product(power(group.G, other), power(k.Public, n-s.E), 0, p)
			if r2 == r {
				t.Fatalf("%d and %d give the same r", s.S, other)
			}
			if got, want := sign.Verify(k.Public, m, api.Sig{E: s.E, S: other}), challenge(r2, k.Public, m) == s.E; got != want {
				t.Errorf("%d, %.10q, S %d: %v, not %v", x, m, other, got, want)
			}
		}
	}
}
