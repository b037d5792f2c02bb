package seal_test

import (
	"crypto/sha256"
	"encoding/binary"
	"encoding/hex"
	"math"
	"math/big"
	"math/rand"
	"strings"
	"sync"
	"testing"

	"agora/api"
	"agora/group"
	"agora/seal"
	"agora/sign"
)

const (
	p = group.P
	n = group.N
)

// number encodes an integer as layer 2 does; a negative one has no encoding.
func number(i int) string {
	if i < 0 {
		return ""
	}
	return string(binary.AppendUvarint(nil, uint64(i)))
}

// hash is the chapter's H, computed with the library's digest.
func hash(parts ...string) string {
	all := number(len(parts))
	for _, part := range parts {
		all += number(len(part)) + part
	}
	digest := sha256.Sum256([]byte(all))
	return string(digest[:])
}

// masked returns the xor of s and of the stream, with the whole stream computed first.
func masked(key, nonce, s string) string {
	stream := ""
	for i := 0; len(stream) < len(s); i++ {
		stream += hash("stream", key, nonce, number(i))
	}
	out := make([]byte, len(s))
	for i := range out {
		out[i] = s[i] ^ stream[i]
	}
	return string(out)
}

// boxOf returns the box with some data, and with the tag that belongs to it.
func boxOf(key, nonce, data string) api.Box {
	return api.Box{Nonce: nonce, Data: data, Tag: hash("tag", key, nonce, data)[:16]}
}

// sealed is P6.1.
func sealed(key, nonce, plain string) api.Box {
	return boxOf(key, nonce, masked(key, nonce, plain))
}

// power returns the residue modulo P of a power with an exponent that is not negative.
func power(a, e int) int {
	x := new(big.Int).Exp(big.NewInt(int64(a)), big.NewInt(int64(e)), big.NewInt(p))
	return int(x.Int64())
}

func publicOf(secret int) int { return power(group.G, secret) }

// ephemeral is the chapter's ephemeral secret.
func ephemeral(public int, seed string) int {
	digest := hash("eph", seed, number(public))
	return 1 + int(binary.BigEndian.Uint64([]byte(digest[:8]))/8)%(n-1)
}

// wrapKey is the chapter's wrapping key.
func wrapKey(to, eph, shared int) string {
	return hash("wrap", number(to), number(eph), number(shared))
}

// wrapped is P6.3, for any public key that is not negative.
func wrapped(public int, seed, plain string) api.Wrap {
	e := ephemeral(public, seed)
	eph := publicOf(e)
	k := wrapKey(public, eph, power(public, e))
	return api.Wrap{To: public, Eph: eph, Box: sealed(k, hash("nonce", k), plain)}
}

// names returns keys, nonces and seeds: the empty one, some whose lengths have two digits to the base 128 and some that do not, some that are almost equal, and words that the definitions use.
func names() []string {
	list := []string{"", "\x00", "\x00\x00", "key", "nonce", "Key", "key ", "\xff\xfe", "gr\u00fc\u00dfe", "stream", "tag", "wrap", "eph", "\x03key"}
	for _, length := range []int{16, 32, 127, 128, 500} {
		list = append(list, strings.Repeat("k", length))
	}
	return list
}

// plains returns texts with lengths below, at and beyond those of one block of the stream, of several ones, and of 128 ones, whose index has two digits.
func plains() []string {
	list := []string{"", "\x00", "\xff", "hello", "Hello", "gr\u00fc\u00dfe", strings.Repeat("\x00", 100), strings.Repeat("\xff", 100)}
	r := rand.New(rand.NewSource(6))
	for _, length := range []int{1, 15, 16, 17, 31, 32, 33, 34, 63, 64, 65, 95, 96, 97, 127, 128, 129, 500, 4095, 4096, 4097, 5000} {
		random := make([]byte, length)
		r.Read(random)
		list = append(list, strings.Repeat("p", length), string(random))
	}
	return list
}

// secrets returns the least and the greatest secret keys, the one of the public key P - 1, and others.
func secrets() []int {
	list := []int{1, 2, 3, 127, 128, 1000, n / 3, n / 2, n/2 + 1, n - 2, n - 1, sign.Key("a").Secret}
	r := rand.New(rand.NewSource(7))
	for range 10 {
		list = append(list, 1+r.Intn(n-1)>>r.Intn(60))
	}
	return list
}

// notPublic returns integers at and beyond the limits of public keys.
func notPublic() []int {
	list := []int{0, -1, -2, -37, p, p + 1, p + 37, 2 * p, 2*p + 1, 3 * p, 4 * p, -p, 1 - p, 37 - p, -2 * p, -3 * p, -4 * p, 1 << 61, 1 << 62, math.MaxInt, math.MaxInt - 1, math.MinInt, math.MinInt + 1}
	for _, x := range secrets() {
		y := publicOf(x)
		list = append(list, -y, y+p, y-p, y+2*p, y-2*p)
	}
	return list
}

// notSecret returns integers at and beyond the limits of secret keys; the generator has the powers of secret keys for some of them.
func notSecret() []int {
	list := []int{0, -1, -2, n, n + 1, n + 2, p, p + 1, 2 * n, 2*n + 1, 3 * n, 4 * n, -n, 1 - n, -2 * n, -3 * n, -4 * n, 1 << 61, 1 << 62, math.MaxInt, math.MaxInt - 1, math.MinInt, math.MinInt + 1}
	for _, x := range secrets() {
		list = append(list, -x, x+n, x-n, x+2*n, x-2*n)
	}
	return list
}

// flips calls f with every string that differs from s in one byte, and with some that are shorter or longer.
func flips(s string, f func(changed string)) {
	for i := range len(s) {
		for _, d := range []byte{1, 2, 32, 128, 255} {
			b := []byte(s)
			b[i] ^= d
			f(string(b))
		}
		f(s[:i])
	}
	for _, more := range []string{"\x00", "\xff", "\x80", " ", s + "m"} {
		f(s + more)
		f(more + s)
	}
}

func unhex(t *testing.T, s string) string {
	t.Helper()
	b, err := hex.DecodeString(s)
	if err != nil {
		t.Fatal(err)
	}
	return string(b)
}

// P6.1 and P6.2: boxes that were computed by another program.
func TestSealKnown(t *testing.T) {
	for _, c := range []struct{ key, nonce, plain, data, tag string }{
		{"", "", "", "", "905b78c2b12426e0a805f0593bb7690a"},
		{"key", "nonce", "hello", "d2c572684b", "0f9fcb414755e692d306fc1a9177a738"},
		{"key", "", "hello", "db68ba9ace", "4e45b56a32d63f3fde291725c2418980"},
		{"", "nonce", "hello", "7d842a1709", "403ef38d96d975f5cca28871e0c5e47b"},
		{"\x00\xff", "\xff", strings.Repeat("\x00", 33), "7f2665be12275bb6ebdb6371a133958e899e68d7cbd19d749517c88273ff79f5bd", "d776810e96fa60cce670ccf238f19930"},
		{strings.Repeat("k", 200), strings.Repeat("n", 130), strings.Repeat("m", 31), "5bcf9982e3ffa87c063257986e7842a79ff2b92aa2c13fb636c90382521fa4", "06281a6a2289e4ceffeba096b839de17"},
		{"key", "nonce", strings.Repeat("x", 32), "c2d8667c5c8fee9caa1b3eb0451da84e15dc09da8b3929d624721b9e445dc543", "0894cac311739ca8bfb713dc07ef52db"},
	} {
		want := api.Box{Nonce: c.nonce, Data: unhex(t, c.data), Tag: unhex(t, c.tag)}
		if got := seal.Seal(c.key, c.nonce, c.plain); got != want {
			t.Errorf("%.10q, %.10q, %.10q: %x, not %x", c.key, c.nonce, c.plain, got, want)
		}
		if got, ok := seal.Open(c.key, want); got != c.plain || !ok {
			t.Errorf("%.10q, %.10q, %.10q: opened %.10q, %v", c.key, c.nonce, c.plain, got, ok)
		}
	}
}

// P6.1, P6.2 and P6.6: Seal follows its definition for all keys and nonces and for plain texts of all lengths, and Open returns the plain text.
func TestSeal(t *testing.T) {
	check := func(key, nonce, plain string) {
		got := seal.Seal(key, nonce, plain)
		if want := sealed(key, nonce, plain); got != want {
			t.Errorf("%.10q, %.10q, %d bytes %.10q: %.40q, not %.40q", key, nonce, len(plain), plain, got, want)
		}
		if got.Nonce != nonce || len(got.Data) != len(plain) || len(got.Tag) != 16 {
			t.Errorf("%.10q, %.10q, %d bytes: nonce %.10q, %d bytes of data, %d of tag", key, nonce, len(plain), got.Nonce, len(got.Data), len(got.Tag))
		}
		if back, ok := seal.Open(key, got); back != plain || !ok {
			t.Errorf("%.10q, %.10q, %d bytes %.10q: opened %.10q, %v", key, nonce, len(plain), plain, back, ok)
		}
	}
	for _, key := range names() {
		for _, nonce := range names() {
			for _, plain := range []string{"", "hello", strings.Repeat("p", 33)} {
				check(key, nonce, plain)
			}
		}
	}
	for i, plain := range plains() {
		check("", "", plain)
		check("key", "nonce", plain)
		check(names()[i%len(names())], names()[(i*5+1)%len(names())], plain)
	}
}

// P6.1: where one string ends and the next one begins matters.
func TestSealBorders(t *testing.T) {
	plain := strings.Repeat("p", 20)
	seen := map[string]bool{}
	for i := range 9 {
		b := seal.Seal("keynonce"[:i], "keynonce"[i:], plain)
		if seen[b.Data] || seen[b.Tag] {
			t.Error(i, "repeats data or a tag")
		}
		seen[b.Data], seen[b.Tag] = true, true
	}
}

// P6.2: a box in which one byte of the tag, the nonce or the data was changed, or that is shorter or longer there, is not opened.
func TestOpenChanged(t *testing.T) {
	for _, plain := range []string{"", "x", "hello", strings.Repeat("p", 31), strings.Repeat("p", 32), strings.Repeat("p", 33), strings.Repeat("p", 70)} {
		for _, nonce := range []string{"", "nonce", strings.Repeat("n", 40)} {
			b := sealed("key", nonce, plain)
			closed := func(key string, c api.Box) {
				if got, ok := seal.Open(key, c); got != "" || ok {
					t.Errorf("%.10q, %q instead of %q: %.10q, %v", key, c, b, got, ok)
				}
			}
			flips(b.Tag, func(s string) { closed("key", api.Box{Nonce: b.Nonce, Data: b.Data, Tag: s}) })
			flips(b.Nonce, func(s string) { closed("key", api.Box{Nonce: s, Data: b.Data, Tag: b.Tag}) })
			flips(b.Data, func(s string) { closed("key", api.Box{Nonce: b.Nonce, Data: s, Tag: b.Tag}) })
			flips("key", func(s string) { closed(s, b) })
			closed("", b)
			// The whole digest begins with the tag.
			closed("key", api.Box{Nonce: b.Nonce, Data: b.Data, Tag: hash("tag", "key", b.Nonce, b.Data)})
			closed("key", api.Box{Nonce: b.Nonce, Data: b.Data, Tag: strings.Repeat("\x00", 16)})
			if len(b.Nonce+b.Data) > 0 {
				closed("key", api.Box{Nonce: b.Data + "d", Data: b.Nonce, Tag: b.Tag})
				closed("key", api.Box{Data: b.Nonce + b.Data + "d", Tag: b.Tag})
			}
		}
	}
	for _, key := range names() {
		if got, ok := seal.Open(key, api.Box{}); got != "" || ok {
			t.Errorf("%.10q, the zero box: %.10q, %v", key, got, ok)
		}
	}
}

// P6.2 and P6.6: Open accepts any data with the right tag, and such a box is the one that Seal returns for what Open returned.
func TestOpenAny(t *testing.T) {
	for i, data := range plains() {
		for _, key := range []string{"", "key", names()[i%len(names())]} {
			nonce := names()[(i*3+2)%len(names())]
			b := boxOf(key, nonce, data)
			got, ok := seal.Open(key, b)
			if got != masked(key, nonce, data) || !ok {
				t.Errorf("%.10q, %.10q, %d bytes of data: %.10q, %v", key, nonce, len(data), got, ok)
			}
			if again := seal.Seal(key, b.Nonce, got); again != b {
				t.Errorf("%.10q, %.10q, %d bytes of data: sealed again %.40q, not %.40q", key, nonce, len(data), again, b)
			}
		}
	}
}

// P6.3 and P6.4: wraps that were computed by another program; for the public key 1 there is no secret key.
func TestWrapKnown(t *testing.T) {
	for _, c := range []struct {
		secret           int
		seed, plain      string
		to, eph          int
		nonce, data, tag string
	}{
		{1, "", "", 37, 1372864829681703589, "a42182332722103cf6ae887320d3383acab56b113ceff97f2f8590b9589ae1e3", "", "430eb3fd81f6441b470a0d77bcb07fa9"},
		{3, "seed", "x", 50653, 1063057580422467980, "d05c8d4d17db2446ebcab99ac889dec8c23ca68e29e32f67cd8597dac23c1a91", "db", "9c633c9b25b944f8587b3aa9b55643b8"},
		{0, "seed", "hello", 1, 19447191053736381, "d2adb4481d03985a1ef9a33c54309cd496f6e1373b8bd7b4bbfd58259425571a", "2145307b77", "db3089de0652d499fb81c234c06755b1"},
		{n / 2, "\x00\xff", "hello", p - 1, 524038499174629311, "93deec81a562c36a862e9e892e07449f7be48662b70c91ee1c0fc42888604272", "43253d7f98", "ec36713e693cd6470564a08c90390b34"},
		{n - 1, strings.Repeat("s", 200), strings.Repeat("m", 40), 2181202846553494278, 158989696337828312, "be99b4c964bc2a603cb095c9050bd5854518abc5e7a0fb66ca18b6236d64a0d9", "8a415abe0cd5865b8160e38c50be22f1e000a8cc91e33fcb36087948d479486e3dd016b820ab7d4e", "0ca9e0f0190703584222175fa9a4cb20"},
	} {
		want := api.Wrap{To: c.to, Eph: c.eph, Box: api.Box{Nonce: unhex(t, c.nonce), Data: unhex(t, c.data), Tag: unhex(t, c.tag)}}
		if got, ok := seal.Wrap(c.to, c.seed, c.plain); got != want || !ok {
			t.Errorf("%d, %.10q, %.10q: %x, %v, not %x", c.to, c.seed, c.plain, got, ok, want)
		}
		plain := c.plain
		if c.secret == 0 {
			plain = ""
		}
		if got, ok := seal.Unwrap(c.secret, want); got != plain || ok != (c.secret != 0) {
			t.Errorf("%d, %.10q, %.10q: unwrapped %.10q, %v", c.to, c.seed, c.plain, got, ok)
		}
	}
}

// P6.3, P6.4 and P6.6: Wrap follows its definition, Unwrap returns the plain text to the recipient, and both sides compute the same shared integer.
func TestWrap(t *testing.T) {
	check := func(x int, seed, plain string) {
		public := publicOf(x)
		got, ok := seal.Wrap(public, seed, plain)
		if want := wrapped(public, seed, plain); got != want || !ok {
			t.Errorf("%d, %.10q, %.10q: %x, %v, not %x", x, seed, plain, got, ok, want)
		}
		if back, ok := seal.Unwrap(x, got); back != plain || !ok {
			t.Errorf("%d, %.10q, %.10q: unwrapped %.10q, %v", x, seed, plain, back, ok)
		}
		if mine, theirs := group.Exp(public, ephemeral(public, seed)), group.Exp(got.Eph, x); mine != theirs {
			t.Errorf("%d, %.10q: shared %d and %d", x, seed, mine, theirs)
		}
	}
	for i, x := range secrets() {
		for _, seed := range names() {
			check(x, seed, "hello")
		}
		check(x, "seed", "")
		check(x, "seed", plains()[i%len(plains())])
	}
	for i, plain := range plains() {
		check(secrets()[i%len(secrets())], names()[i%len(names())], plain)
	}
}

// P6.3: 1 and P - 1, the least and the greatest public key, are in range; what is out of range gets no wrap.
func TestWrapRange(t *testing.T) {
	for _, public := range []int{1, 2, p - 2, p - 1} {
		for _, seed := range names() {
			if got, ok := seal.Wrap(public, seed, "hello"); got != wrapped(public, seed, "hello") || !ok {
				t.Errorf("%d, %.10q: %x, %v", public, seed, got, ok)
			}
		}
	}
	for _, public := range notPublic() {
		for _, seed := range []string{"", "seed"} {
			for _, plain := range []string{"", "x"} {
				if got, ok := seal.Wrap(public, seed, plain); got != (api.Wrap{}) || ok {
					t.Errorf("%d, %q, %q: %x, %v", public, seed, plain, got, ok)
				}
			}
		}
	}
}

// P6.3: the public key and the seed determine the Eph and the wrapping key; different ones lead to different wraps.
func TestWrapDiffers(t *testing.T) {
	ephs, nonces := map[int]bool{}, map[string]bool{}
	for x := range 20 {
		for _, seed := range names() {
			w, _ := seal.Wrap(publicOf(x+1), seed, "hello")
			other, _ := seal.Wrap(publicOf(x+1), seed, "other text")
			if w.Eph != other.Eph || w.Box.Nonce != other.Box.Nonce {
				t.Errorf("%d, %.10q: Eph or Nonce depends on the plain text", x+1, seed)
			}
			if ephs[w.Eph] || nonces[w.Box.Nonce] {
				t.Errorf("%d, %.10q: Eph or Nonce is repeated", x+1, seed)
			}
			ephs[w.Eph], nonces[w.Box.Nonce] = true, true
		}
	}
}

// closed checks that Unwrap fails and returns nothing.
func closed(t *testing.T, secret int, w api.Wrap) {
	t.Helper()
	if got, ok := seal.Unwrap(secret, w); got != "" || ok {
		t.Errorf("%d, %x: %.10q, %v", secret, w, got, ok)
	}
}

// P6.4: a wrap for another key is not opened.
func TestUnwrapOtherKey(t *testing.T) {
	for _, x := range secrets() {
		w := wrapped(publicOf(x), "seed", "hello")
		for _, other := range append(secrets(), x+1, x-1, n-x) {
			if other == x || other < 1 || other > n-1 {
				continue
			}
			closed(t, other, w)
			// Nor is one that only claims to be for this key.
			claims := w
			claims.To = publicOf(other)
			closed(t, other, claims)
			closed(t, x, claims)
			// To must be the recipient's key even if the box was sealed for both.
			k := wrapKey(claims.To, w.Eph, power(w.Eph, x))
			closed(t, x, api.Wrap{To: claims.To, Eph: w.Eph, Box: sealed(k, "", "hello")})
		}
	}
}

// P6.4: a To beyond the range is not the public key of the secret key, though its residue is.
func TestUnwrapTo(t *testing.T) {
	for _, x := range secrets() {
		y := publicOf(x)
		eph := wrapped(y, "seed", "hello").Eph
		shared := power(eph, x)
		for _, to := range []int{y + p, y - p, y + 2*p, y - 2*p, -y, p - y, 0, p, y + 1, y - 1, 1} {
			if to != y {
				closed(t, x, api.Wrap{To: to, Eph: eph, Box: sealed(wrapKey(to, eph, shared), "", "hello")})
				closed(t, x, api.Wrap{To: to, Eph: eph, Box: sealed(wrapKey(y, eph, shared), "", "hello")})
			}
		}
	}
}

// P6.4: what is not a secret key opens nothing, though To is the power of the generator and the box is sealed for it.
func TestUnwrapNotSecret(t *testing.T) {
	for _, x := range notSecret() {
		to := group.Exp(group.G, x)
		for _, eph := range []int{1, 37, p - 1, wrapped(to, "seed", "hello").Eph} {
			k := wrapKey(to, eph, group.Exp(eph, x))
			closed(t, x, api.Wrap{To: to, Eph: eph, Box: sealed(k, hash("nonce", k), "hello")})
		}
		closed(t, x, wrapped(to, "seed", "hello"))
		closed(t, x, api.Wrap{})
		closed(t, x, api.Wrap{To: x})
	}
	for _, x := range secrets() {
		closed(t, x, api.Wrap{})
	}
}

// P6.4: an Eph that is out of range is not accepted, though the box is sealed with the key that it would give, or with that of its residue.
func TestUnwrapEph(t *testing.T) {
	for _, x := range secrets() {
		y := publicOf(x)
		right := wrapped(y, "seed", "hello")
		for _, eph := range append(notPublic(), right.Eph+p, right.Eph-p, right.Eph+2*p, -right.Eph) {
			residue := group.Add(eph, 0)
			shared := group.Exp(eph, x)
			for _, k := range []string{wrapKey(y, eph, shared), wrapKey(y, residue, shared), wrapKey(y, right.Eph, power(right.Eph, x))} {
				closed(t, x, api.Wrap{To: y, Eph: eph, Box: sealed(k, hash("nonce", k), "hello")})
			}
			closed(t, x, api.Wrap{To: y, Eph: eph, Box: right.Box})
		}
	}
}

// P6.4: every Eph from 1 to P - 1 is accepted, and every Nonce of the Box, if the box was sealed with the wrapping key.
func TestUnwrapAny(t *testing.T) {
	for _, x := range secrets() {
		y := publicOf(x)
		for _, eph := range []int{1, 2, 37, y, p - y, p - 2, p - 1} {
			k := wrapKey(y, eph, power(eph, x))
			for _, nonce := range append(names(), hash("nonce", k), k) {
				if got, ok := seal.Unwrap(x, api.Wrap{To: y, Eph: eph, Box: sealed(k, nonce, "hello")}); got != "hello" || !ok {
					t.Errorf("%d, Eph %d, Nonce %.10q: %.10q, %v", x, eph, nonce, got, ok)
				}
			}
			for _, plain := range []string{"", strings.Repeat("p", 33)} {
				if got, ok := seal.Unwrap(x, api.Wrap{To: y, Eph: eph, Box: sealed(k, "", plain)}); got != plain || !ok {
					t.Errorf("%d, Eph %d: %.10q, %v", x, eph, got, ok)
				}
			}
		}
	}
}

// P6.4: a wrap in which one byte of the box, or the Eph, was changed is not opened.
func TestUnwrapChanged(t *testing.T) {
	for _, x := range []int{1, 1000, n - 1} {
		for _, plain := range []string{"", "hello", strings.Repeat("p", 33)} {
			w := wrapped(publicOf(x), "seed", plain)
			with := func(eph int, b api.Box) { closed(t, x, api.Wrap{To: w.To, Eph: eph, Box: b}) }
			flips(w.Box.Tag, func(s string) { with(w.Eph, api.Box{Nonce: w.Box.Nonce, Data: w.Box.Data, Tag: s}) })
			flips(w.Box.Nonce, func(s string) { with(w.Eph, api.Box{Nonce: s, Data: w.Box.Data, Tag: w.Box.Tag}) })
			flips(w.Box.Data, func(s string) { with(w.Eph, api.Box{Nonce: w.Box.Nonce, Data: s, Tag: w.Box.Tag}) })
			for _, eph := range []int{w.Eph + 1, w.Eph - 1, p - w.Eph, 1, p - 1, 37} {
				with(eph, w.Box)
			}
			with(w.Eph, api.Box{})
		}
	}
}

// The examples of the chapter for Wrap and Unwrap (P6.3, P6.4).
func TestExamples(t *testing.T) {
	for _, public := range []int{0, p} {
		if w, ok := seal.Wrap(public, "s", "x"); w != (api.Wrap{}) || ok {
			t.Error(public, w, ok)
		}
	}
	w, ok := seal.Wrap(37*37*37%p, "s", "x")
	if !ok {
		t.Error("no wrap")
	}
	if got, ok := seal.Unwrap(3, w); got != "x" || !ok {
		t.Error(got, ok)
	}
}

// result is what all functions return for some arguments.
type result struct {
	box     api.Box
	plain   string
	opened  bool
	wrap    api.Wrap
	wraps   bool
	back    string
	unwraps bool
}

func all(x int, key, nonce, plain string) result {
	var r result
	r.box = seal.Seal(key, nonce, plain)
	r.plain, r.opened = seal.Open(key, r.box)
	r.wrap, r.wraps = seal.Wrap(group.Exp(group.G, x), key, plain)
	r.back, r.unwraps = seal.Unwrap(x, r.wrap)
	return r
}

// P6.5: each function returns the same again, after calls with other arguments, for equal strings in other memory, and in several goroutines at once.
func TestPure(t *testing.T) {
	type arguments struct {
		x                 int
		key, nonce, plain string
	}
	first := map[arguments]result{}
	for i, x := range append(secrets(), notSecret()...) {
		for j, key := range names() {
			a := arguments{x, key, names()[(i+j)%len(names())], plains()[(i*7+j)%len(plains())]}
			first[a] = all(a.x, a.key, a.nonce, a.plain)
		}
	}
	var workers sync.WaitGroup
	for range 4 {
		workers.Go(func() {
			for a, want := range first {
				if got := all(a.x, strings.Clone(a.key), strings.Clone(a.nonce), strings.Clone(a.plain)); got != want {
					t.Errorf("%d, %.10q, %.10q, %d bytes: another result", a.x, a.key, a.nonce, len(a.plain))
				}
			}
		})
	}
	workers.Wait()
}

// P6.6: Open accepts a box if and only if it is the one that Seal returns for the key, its Nonce and some plain text.
func TestOpenIsInverse(t *testing.T) {
	for _, key := range names() {
		for _, other := range names() {
			for _, nonce := range []string{"", "nonce"} {
				b := seal.Seal(key, nonce, "hello")
				plain, ok := seal.Open(other, b)
				if ok != (key == other) || ok && (plain != "hello" || seal.Seal(other, b.Nonce, plain) != b) {
					t.Errorf("%.10q, %.10q: %.10q, %v", key, other, plain, ok)
				}
			}
		}
	}
}

// P6.7: with the same key and nonce, the data differ exactly where the plain texts do, by the same xor; as far as the shorter one reaches.
func TestSameStream(t *testing.T) {
	for _, key := range []string{"", "key"} {
		for _, nonce := range []string{"", "nonce"} {
			for _, one := range plains() {
				for _, two := range plains() {
					a, b := seal.Seal(key, nonce, one).Data, seal.Seal(key, nonce, two).Data
					for i := range min(len(one), len(two)) {
						if a[i]^b[i] != one[i]^two[i] {
							t.Fatalf("%q, %q, %d and %d bytes: byte %d", key, nonce, len(one), len(two), i)
						}
					}
				}
			}
		}
	}
}
