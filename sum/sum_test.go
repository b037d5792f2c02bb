package sum_test

import (
	"crypto/sha256"
	"encoding/binary"
	"encoding/hex"
	"hash/crc32"
	"math"
	"math/big"
	"math/bits"
	"math/rand"
	"strings"
	"testing"

	"agora/sum"
)

// random returns a string of n bytes.
func random(r *rand.Rand, n int) string {
	b := make([]byte, n)
	r.Read(b)
	return string(b)
}

// samples returns strings of every length up to three blocks, and some that are longer.
func samples() []string {
	r := rand.New(rand.NewSource(3))
	list := []string{"abc", "123456789", "gr\u00fc\u00dfe", "\xff\xfe"}
	for n := range 3*64 + 2 {
		list = append(list, strings.Repeat("\x00", n), strings.Repeat("\x80", n), strings.Repeat("\xff", n), random(r, n))
	}
	for _, n := range []int{255, 256, 8191, 8192, 8193, 65535, 65536, 1 << 20} {
		list = append(list, random(r, n))
	}
	return list
}

// crc is the definition of the checksum.
func crc(s string) uint32 {
	register := uint32(0xffffffff)
	for i := range len(s) {
		register ^= uint32(s[i])
		for range 8 {
			out := register & 1
			register >>= 1
			if out == 1 {
				register ^= 0x82f63b78
			}
		}
	}
	return ^register
}

// P3.1: the chapter's examples, the definition, and the library's CRC-32C.
func TestCrc(t *testing.T) {
	for s, want := range map[string]uint32{"": 0, "123456789": 0xe3069283, "a": 0xc1d04330, strings.Repeat("\xff", 32): 0x62a8ab43} {
		if got := sum.Crc(s); got != want {
			t.Errorf("Crc(%q) = %#x, want %#x", s, got, want)
		}
	}
	table := crc32.MakeTable(crc32.Castagnoli)
	for _, s := range samples() {
		want := crc(s)
		if library := crc32.Checksum([]byte(s), table); library != want {
			t.Fatalf("the definition disagrees with the library about %.40q", s)
		}
		if got := sum.Crc(s); got != want {
			t.Errorf("Crc(%.40q), %d bytes, = %#x, want %#x", s, len(s), got, want)
		}
	}
	for b := range 256 {
		s := string([]byte{byte(b)})
		if got := sum.Crc(s); got != crc(s) {
			t.Errorf("Crc(%q) = %#x, want %#x", s, got, crc(s))
		}
	}
}

// primes returns the first n primes.
func primes(n int) []int64 {
	var list []int64
	for p := int64(2); len(list) < n; p++ {
		if big.NewInt(p).ProbablyPrime(10) {
			list = append(list, p)
		}
	}
	return list
}

// fraction returns the first 32 bits of the fractional part of the root of p, of the degree that is given.
func fraction(p int64, degree int64) uint32 {
	target := new(big.Int).Lsh(big.NewInt(p), uint(32*degree))
	root, exponent := new(big.Int), big.NewInt(degree)
	for bit := 40; bit >= 0; bit-- {
		next := new(big.Int).SetBit(root, bit, 1)
		if new(big.Int).Exp(next, exponent, nil).Cmp(target) <= 0 {
			root = next
		}
	}
	return uint32(root.Uint64())
}

// sha is the chapter's definition of the digest, with constants that are computed from the primes.
func sha(s string) string {
	var state [8]uint32
	for i, p := range primes(8) {
		state[i] = fraction(p, 2)
	}
	var constants [64]uint32
	for i, p := range primes(64) {
		constants[i] = fraction(p, 3)
	}
	padded := append([]byte(s), 128)
	for len(padded)%64 != 56 {
		padded = append(padded, 0)
	}
	padded = binary.BigEndian.AppendUint64(padded, uint64(8*len(s)))
	for ; len(padded) > 0; padded = padded[64:] {
		var w [64]uint32
		for i := range w {
			if i < 16 {
				w[i] = binary.BigEndian.Uint32(padded[4*i:])
				continue
			}
			x, y := w[i-15], w[i-2]
			s0 := bits.RotateLeft32(x, 32-7) ^ bits.RotateLeft32(x, 32-18) ^ x>>3
			s1 := bits.RotateLeft32(y, 32-17) ^ bits.RotateLeft32(y, 32-19) ^ y>>10
			w[i] = w[i-16] + s0 + w[i-7] + s1
		}
		words := state
		for i := range w {
			words = round(words, constants[i], w[i])
		}
		for i := range state {
			state[i] += words[i]
		}
	}
	var out []byte
	for _, word := range state {
		out = binary.BigEndian.AppendUint32(out, word)
	}
	return string(out)
}

// round is the chapter's definition of a round.
func round(s [8]uint32, constant, word uint32) [8]uint32 {
	a, b, c, d, e, f, g, h := s[0], s[1], s[2], s[3], s[4], s[5], s[6], s[7]
	x := bits.RotateLeft32(e, 32-6) ^ bits.RotateLeft32(e, 32-11) ^ bits.RotateLeft32(e, 32-25)
	t1 := h + x + ((e & f) ^ (^e & g)) + constant + word
	y := bits.RotateLeft32(a, 32-2) ^ bits.RotateLeft32(a, 32-13) ^ bits.RotateLeft32(a, 32-22)
	t2 := y + ((a & b) ^ (a & c) ^ (b & c))
	return [8]uint32{t1 + t2, a, b, c, d + t1, e, f, g}
}

// P3.2: the examples of the chapter and of FIPS 180-4.
func TestShaExamples(t *testing.T) {
	for s, want := range map[string]string{
		"":    "e3b0c44298fc1c149afbf4c8996fb92427ae41e4649b934ca495991b7852b855",
		"abc": "ba7816bf8f01cfea414140de5dae2223b00361a396177a9cb410ff61f20015ad",
		"abcdbcdecdefdefgefghfghighijhijkijkljklmklmnlmnomnopnopq": "248d6a61d20638b8e5c026930c3e6039a33ce45964ff2167f6ecedd419db06c1",
		strings.Repeat("a", 1000000):                               "cdc76e5c9914fb9281a1c7e284d73e67f1809a48a497200e046d39ccc7112cd0",
	} {
		if got := hex.EncodeToString([]byte(sum.Sha(s))); got != want {
			t.Errorf("Sha(%.40q) = %s, want %s", s, got, want)
		}
	}
}

// P3.2: the library's SHA-256 for strings of all lengths around the ends of blocks: up to 55 bytes the padding fits into the last block, from 56 it does not.
func TestShaLengths(t *testing.T) {
	for _, s := range samples() {
		want := sha256.Sum256([]byte(s))
		if got := sum.Sha(s); got != string(want[:]) {
			t.Errorf("Sha(%.40q), %d bytes, = %x, want %x", s, len(s), got, want)
		}
	}
}

// P3.2: the chapter's definition, including that of the constants.
func TestShaDefinition(t *testing.T) {
	r := rand.New(rand.NewSource(32))
	for _, n := range []int{0, 1, 3, 8, 55, 56, 57, 63, 64, 65, 119, 120, 121, 127, 128, 129, 1000} {
		s := random(r, n)
		if got, want := sum.Sha(s), sha(s); got != want {
			t.Errorf("Sha(%.40q), %d bytes, = %x, want %x", s, n, got, want)
		}
	}
}

// P3.3: the examples of the chapter, and the digits of every byte.
func TestHex(t *testing.T) {
	for s, want := range map[string]string{"": "", "az": "617a", "\x00\x09\x0a\x0f\x10\x90\xa0\xf0\xff": "00090a0f1090a0f0ff", "\u00fc": "c3bc"} {
		if got := sum.Hex(s); got != want {
			t.Errorf("Hex(%q) = %q, want %q", s, got, want)
		}
	}
	for _, s := range samples() {
		if got, want := sum.Hex(s), hex.EncodeToString([]byte(s)); got != want {
			t.Errorf("Hex(%.40q) = %.40q, want %.40q", s, got, want)
		}
	}
	for b := range 256 {
		s := string([]byte{byte(b)})
		const digits = "0123456789abcdef"
		if got, want := sum.Hex(s), digits[b/16:b/16+1]+digits[b%16:b%16+1]; got != want {
			t.Errorf("Hex(%q) = %q, want %q", s, got, want)
		}
	}
}

// P3.3: Unhex accepts two bytes exactly if Hex returns them for a byte, wherever they stand.
func TestUnhexPairs(t *testing.T) {
	inverse := map[string]string{}
	for b := range 256 {
		s := string([]byte{byte(b)})
		inverse[sum.Hex(s)] = s
	}
	for first := range 256 {
		for second := range 256 {
			pair := string([]byte{byte(first), byte(second)})
			want, valid := inverse[pair]
			if got, ok := sum.Unhex(pair); got != want || ok != valid {
				t.Errorf("Unhex(%q) = %q, %v, want %q, %v", pair, got, ok, want, valid)
			}
			if got, ok := sum.Unhex("61" + pair); ok != valid || valid && got != "a"+want || !valid && got != "" {
				t.Errorf("Unhex(%q) = %q, %v", "61"+pair, got, ok)
			}
			if got, ok := sum.Unhex(pair + "7a"); ok != valid || valid && got != want+"z" || !valid && got != "" {
				t.Errorf("Unhex(%q) = %q, %v", pair+"7a", got, ok)
			}
		}
	}
}

// P3.3: strings that Hex does not return, such as those with an odd number of digits.
func TestUnhexInvalid(t *testing.T) {
	invalid := []string{
		"617A", "617", "6", "0", "f", "61 ", " 61", "6 1", "0g", "g0", "AA", "aF", "Fa", "-1", "+1", "0x", "0x61", "61\n", "\x00\x00", "\xff\xff",
		"/0", ":0", "`0", "0/", "0:", "0`", "0\u0661", "\u06610", "\uff11\uff11", "616", "61616", "6161g1", "61616g",
		strings.Repeat("61", 1000) + "6", strings.Repeat("61", 1000) + "6A",
	}
	for _, s := range invalid {
		if got, ok := sum.Unhex(s); got != "" || ok {
			t.Errorf("Unhex(%.40q) = %.40q, %v", s, got, ok)
		}
	}
}

// P3.4: the examples of the chapter, short strings, and strings of more than eight bytes.
func TestNum(t *testing.T) {
	for s, want := range map[string]int{
		"": 0, "\x80": 1 << 60, "\x00\x80": 1 << 52, "\x01": 1 << 53, "\xff": 0xff << 53, "\x00\x00\x00\x00\x00\x00\x01": 1 << 5,
		strings.Repeat("\xff", 8): 1<<61 - 1, strings.Repeat("\xff", 9): 1<<61 - 1, strings.Repeat("\xff", 7): 1<<61 - 1<<5,
		"\x7f\xff\xff\xff\xff\xff\xff\xff": 1<<60 - 1,
		"\x00\x00\x00\x00\x00\x00\x00\x07": 0, "\x00\x00\x00\x00\x00\x00\x00\x08": 1, "\x00\x00\x00\x00\x00\x00\x00\x08abc": 1,
		"\x00\x00\x00\x00\x00\x00\x00\x00\xff": 0,
	} {
		if got := sum.Num(s); got != want {
			t.Errorf("Num(%q) = %d, want %d", s, got, want)
		}
	}
}

// P3.4: the definition, for strings of every length up to three blocks.
func TestNumDefinition(t *testing.T) {
	for _, s := range samples() {
		first := (s + strings.Repeat("\x00", 8))[:8]
		want := new(big.Int).Div(new(big.Int).SetBytes([]byte(first)), big.NewInt(8))
		got := sum.Num(s)
		if got < 0 || got > 1<<61-1 || big.NewInt(int64(got)).Cmp(want) != 0 {
			t.Errorf("Num(%.40q) = %d, want %s", s, got, want)
		}
	}
}

// P3.5: results do not depend on earlier calls.
func TestPure(t *testing.T) {
	type results struct {
		crc                  uint32
		sha, hexed, unhexed  string
		valid, validOfDigits bool
		num                  int
	}
	all := func(s string) results {
		x := results{crc: sum.Crc(s), sha: sum.Sha(s), hexed: sum.Hex(s), num: sum.Num(s)}
		x.unhexed, x.validOfDigits = sum.Unhex(x.hexed)
		_, x.valid = sum.Unhex(s)
		return x
	}
	list := samples()[:400]
	first := map[string]results{}
	for _, s := range list {
		first[s] = all(s)
	}
	for i := range list {
		s := list[len(list)-1-i]
		if again := all(s); again != first[s] {
			t.Errorf("%.40q: %+v at first, then %+v", s, first[s], again)
		}
	}
}

// burst returns s with the bits of pattern changed, the first of them at the position that is given, in the order in which the register consumes them.
func burst(s string, at int, pattern uint32) string {
	b := []byte(s)
	for i := range 32 {
		if pattern>>i&1 == 1 {
			b[(at+i)/8] ^= 1 << ((at + i) % 8)
		}
	}
	return string(b)
}

// P3.6: changes within 32 consecutive bits change the checksum.
func TestCrcBursts(t *testing.T) {
	r := rand.New(rand.NewSource(36))
	for _, n := range []int{4, 5, 8, 33, 100} {
		s := random(r, n)
		for at := range 8*n - 31 {
			patterns := []uint32{1, 1 << 31, 1<<31 | 1, math.MaxUint32, 0x82f63b78, 0x05ec76f1, r.Uint32() | 1}
			for _, pattern := range patterns {
				if x := burst(s, at, pattern); sum.Crc(x) == sum.Crc(s) {
					t.Errorf("%q and %q have the same checksum", s, x)
				}
			}
		}
	}
}

// P3.6: of four bytes that follow a string, the checksum alone, its least significant byte first, leads to the residue.
func TestCrcResidue(t *testing.T) {
	const residue = 0x48674bc7
	r := rand.New(rand.NewSource(37))
	for _, s := range samples()[:300] {
		c := sum.Crc(s)
		if got := sum.Crc(s + string(binary.LittleEndian.AppendUint32(nil, c))); got != residue {
			t.Errorf("%.40q and its checksum have the checksum %#x", s, got)
		}
		others := []uint32{c ^ 1, c ^ 1<<31, ^c, c + 1, c - 1, bits.ReverseBytes32(c), bits.Reverse32(c), 0, r.Uint32(), residue}
		for _, other := range others {
			if other != c && sum.Crc(s+string(binary.LittleEndian.AppendUint32(nil, other))) == residue {
				t.Errorf("%.40q and %#x have the residue", s, other)
			}
		}
	}
}

// P3.7: the checksum of the xor of three strings.
func TestCrcXor(t *testing.T) {
	r := rand.New(rand.NewSource(38))
	for n := range 200 {
		x, y, z := random(r, n), random(r, n), random(r, n)
		b := make([]byte, n)
		for i := range b {
			b[i] = x[i] ^ y[i] ^ z[i]
		}
		if got, want := sum.Crc(string(b)), sum.Crc(x)^sum.Crc(y)^sum.Crc(z); got != want {
			t.Errorf("%d bytes: %#x, want %#x", n, got, want)
		}
	}
}

// P3.7: Unhex inverts Hex.
func TestUnhexInvertsHex(t *testing.T) {
	for _, s := range samples() {
		if got, ok := sum.Unhex(sum.Hex(s)); got != s || !ok {
			t.Errorf("Unhex(Hex(%.40q)) = %.40q, %v", s, got, ok)
		}
	}
}
