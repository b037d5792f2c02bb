package ident_test

import (
	"cmp"
	"crypto/sha256"
	"encoding/binary"
	"encoding/hex"
	"math"
	"math/rand"
	"slices"
	"strconv"
	"strings"
	"sync"
	"testing"

	"agora/ident"
)

const (
	hexDigits = "0123456789abcdef"
	letters   = "abcdefghijklmnopqrstuvwxyz"
	inside    = letters + "0123456789_"
	maxName   = 24
	servers   = 20
	maxIds    = 64
)

// keys are integers for Of, among them those that are no public keys.
var keys = []int{
	0, 1, 2, 37, 126, 127, 128, 129, 16383, 16384, 1<<61 - 2, 1<<61 - 1, 1 << 61, 1<<62 - 1, math.MaxInt - 1, math.MaxInt,
	-1, -2, -5, -128, -1 << 61, math.MinInt + 1, math.MinInt,
}

// goodNames are names.
var goodNames = []string{
	"a", "z", "ann", "a_1", "a1", "a_", "z9_", "a__", "a0000", "server19", "abcdefghijklmnopqrstuvwx", "zyxwvu_0123456789_cdefgh",
	strings.Repeat("a", 23), strings.Repeat("z", 24), "a" + strings.Repeat("_", 23), "q" + strings.Repeat("9", 23),
}

// badNames are no names.
var badNames = []string{
	"", "1a", "_a", "9", "_", "0", "Ann", "A", "aB", "annA", "a-b", "a b", " a", "a ", "a\x00", "\x00", "\x00a", "a\n", "a.b", "a@", "@", "@a", "a@1", "a@b",
	"a\u00e4", "\u00e4", "\u00e4a", "a\u20ac", "\u20ac", "a\U0001f600", "\U0001f600", "a\u0661", "\u03b1", "a\u03b1b", "\uff41", "a\uff11", "\u017f", "a\u212a", "\ufffd", "a\ufffd",
	"a\xff", "\xff", "\xffa", "a\x80", "\x80", "a\xc3", "\xc3", "a\xe2\x82", "a\xc1\xa1", "a\xc0\x80", "a\xed\xa0\x80", "a\xf4\x90\x80\x80",
	strings.Repeat("a", 25), strings.Repeat("a", 26), strings.Repeat("a", 280), strings.Repeat("a", 1<<16), strings.Repeat("_", 24), strings.Repeat("0", 24),
	strings.Repeat("a", 23) + "A", strings.Repeat("a", 23) + "\xff", strings.Repeat("a", 22) + "\u00e4", strings.Repeat("a", 23) + "\u00e4", strings.Repeat("\u00e4", 12), strings.Repeat("\u00e4", 24),
}

// wrongServers are no servers.
var wrongServers = []int{-1, -2, -19, -20, 20, 21, 99, 256, 1 << 32, 1<<32 + 1, -1 << 32, math.MaxInt, math.MinInt, math.MinInt + 3}

// id returns the id of an actor, made with other packages than those that Of uses.
func id(public int) string {
	t := []byte("\x05actor")
	if public >= 0 {
		t = binary.AppendUvarint(t, uint64(public))
	}
	digest := sha256.Sum256(t)
	return hex.EncodeToString(digest[:8])
}

// only reports whether every byte of s is one of set.
func only(s, set string) bool {
	for i := range len(s) {
		if strings.IndexByte(set, s[i]) < 0 {
			return false
		}
	}
	return true
}

// isId is the definition of an id.
func isId(s string) bool { return len(s) == 16 && only(s, hexDigits) }

// isName is the definition of a name.
func isName(s string) bool {
	return len(s) >= 1 && len(s) <= maxName && only(s[:1], letters) && only(s, inside)
}

// handle is the definition of a handle.
func handle(name string, server int) string { return name + "@" + strconv.Itoa(server) }

// parsed tries every server whose handle s may be.
func parsed(s string) (string, int, bool) {
	for server := range servers {
		name, found := strings.CutSuffix(s, "@"+strconv.Itoa(server))
		if found && isName(name) {
			return name, server, true
		}
	}
	return "", 0, false
}

// parses fails unless Parse returns for s what the definition says.
func parses(t *testing.T, s string) {
	t.Helper()
	name, server, ok := ident.Parse(s)
	wantName, wantServer, want := parsed(s)
	if name != wantName || server != wantServer || ok != want {
		t.Errorf("Parse(%.60q), %d bytes, = %q, %d, %v; want %q, %d, %v", s, len(s), name, server, ok, wantName, wantServer, want)
	}
}

// refuses fails unless Parse finds no handle in s.
func refuses(t *testing.T, s string) {
	t.Helper()
	if name, server, ok := ident.Parse(s); name != "" || server != 0 || ok {
		t.Errorf("Parse(%.60q), %d bytes, = %q, %d, %v", s, len(s), name, server, ok)
	}
}

// with returns s with the byte c in the place of that at i.
func with(s string, i int, c byte) string { return s[:i] + string([]byte{c}) + s[i+1:] }

// made returns n ids in ascending order, which differ at the beginning, in the middle or at the end.
func made(n int) []string {
	var list []string
	for i := range n {
		x := byte(i % 16)
		switch s := strings.Repeat(string(hexDigits[i/16]), 16); i % 3 {
		case 0:
			list = append(list, with(s, 15, hexDigits[x]))
		case 1:
			list = append(list, with(s, 7, hexDigits[x]))
		default:
			list = append(list, with(s, 0, hexDigits[x]))
		}
	}
	slices.Sort(list)
	return slices.Compact(list)
}

// accepts fails unless Ids returns want for l.
func accepts(t *testing.T, l []string, want bool) {
	t.Helper()
	if got := ident.Ids(l); got != want {
		t.Errorf("Ids(%.200q), %d elements, = %v", l, len(l), got)
	}
}

// P11.1: the definition, and digests that another program computed.
func TestOf(t *testing.T) {
	for public, want := range map[int]string{0: "b81e1f80ddeed0a5", 1: "e378ec7266637735", math.MaxInt: "5508d087ce1b097b", -1: "dc327ce876abaa88", math.MinInt: "dc327ce876abaa88"} {
		if got := ident.Of(public); got != want {
			t.Errorf("Of(%d) = %q, want %q", public, got, want)
		}
	}
	r := rand.New(rand.NewSource(11))
	list := slices.Clone(keys)
	for range 2000 {
		list = append(list, int(r.Uint64()>>r.Intn(64)))
	}
	for _, public := range list {
		if got := ident.Of(public); got != id(public) {
			t.Errorf("Of(%d) = %q, want %q", public, got, id(public))
		}
	}
}

// P11.1: an id has 16 bytes.
func TestRightLength(t *testing.T) {
	for n := range 70 {
		for _, c := range []string{"0", "9", "a", "f", "0a", "f9"} {
			s := strings.Repeat(c, n)[:n]
			if got := ident.Right(s); got != (n == 16) {
				t.Errorf("Right(%q), %d bytes, = %v", s, n, got)
			}
		}
	}
	for _, s := range []string{strings.Repeat("0", 256+16), strings.Repeat("0", 1<<16+16), strings.Repeat("0", 1<<20), strings.Repeat("\u00e4", 8), strings.Repeat("\u00e4", 16), strings.Repeat("\uff11", 16), strings.Repeat("\uff11", 5) + "0"} {
		if ident.Right(s) {
			t.Errorf("Right(%.60q), %d bytes, is true", s, len(s))
		}
	}
}

// P11.1: each byte at each place.
func TestRightBytes(t *testing.T) {
	for _, s := range []string{"0123456789abcdef", "ffffffffffffffff", "00112233aabbccdd", "9999999999999999"} {
		for i := range len(s) {
			for c := range 256 {
				x := with(s, i, byte(c))
				if got, want := ident.Right(x), strings.IndexByte(hexDigits, byte(c)) >= 0; got != want {
					t.Errorf("Right(%q) = %v", x, got)
				}
			}
		}
	}
	for _, s := range []string{"00112233AABBCCDD", "0123456789abcdeF", "0123456789abcd\u00e4", "\u00e40123456789abcd", "0x23456789abcdef", "-123456789abcdef", " 123456789abcdef", "0123456789abcde\n"} {
		if ident.Right(s) {
			t.Errorf("Right(%q) is true", s)
		}
	}
}

// P11.2: names and strings that are none.
func TestName(t *testing.T) {
	for _, s := range goodNames {
		if !ident.Name(s) || !isName(s) {
			t.Errorf("Name(%q) is false", s)
		}
	}
	for _, s := range badNames {
		if ident.Name(s) || isName(s) {
			t.Errorf("Name(%.60q), %d bytes, is true", s, len(s))
		}
	}
	for n := range 300 {
		s := strings.Repeat("ab_9", n/4+1)[:n]
		if got := ident.Name(s); got != (n >= 1 && n <= 24) {
			t.Errorf("Name(%q), %d bytes, = %v", s, n, got)
		}
	}
}

// P11.2: each byte as the first one and as a later one.
func TestNameBytes(t *testing.T) {
	for _, s := range []string{"a", "zz", "abc", "a_1", "abcdefghijklmnopqrstuvwx"} {
		for i := range len(s) {
			for c := range 256 {
				set := inside
				if i == 0 {
					set = letters
				}
				x := with(s, i, byte(c))
				if got, want := ident.Name(x), strings.IndexByte(set, byte(c)) >= 0; got != want {
					t.Errorf("Name(%q) = %v", x, got)
				}
			}
		}
	}
}

// P11.2: each character, most of which have several bytes.
func TestNameCharacters(t *testing.T) {
	for c := rune(0); c <= 0x10ffff; c++ {
		if c >= 0x3000 && c%251 != 0 {
			continue
		}
		for _, s := range []string{string(c), "a" + string(c), string(c) + "a", "a" + string(c) + "a"} {
			if got, want := ident.Name(s), isName(s); got != want {
				t.Errorf("Name(%q) = %v", s, got)
			}
		}
	}
}

// P11.2: the chapter's examples, and every pair of a name or none and a server or none.
func TestHandle(t *testing.T) {
	if ident.Handle("ann", 3) != "ann@3" || ident.Handle("ann", 20) != "" || ident.Handle("Ann", 3) != "" {
		t.Error("the chapter's examples")
	}
	for _, name := range goodNames {
		for server := range servers {
			if got := ident.Handle(name, server); got != handle(name, server) {
				t.Errorf("Handle(%q, %d) = %q", name, server, got)
			}
		}
		for _, server := range wrongServers {
			if got := ident.Handle(name, server); got != "" {
				t.Errorf("Handle(%q, %d) = %q", name, server, got)
			}
		}
	}
	for _, name := range badNames {
		for _, server := range append([]int{0, 3, 9, 10, 19}, wrongServers...) {
			if got := ident.Handle(name, server); got != "" {
				t.Errorf("Handle(%.60q, %d) = %.60q", name, server, got)
			}
		}
	}
}

// P11.2: the chapter's examples, and strings that are no handles for one reason each.
func TestParse(t *testing.T) {
	if name, server, ok := ident.Parse("ann@3"); name != "ann" || server != 3 || !ok {
		t.Errorf("Parse(%q) = %q, %d, %v", "ann@3", name, server, ok)
	}
	for _, s := range []string{
		"ann@03", "ann", "", "@", "@@", "@3", "ann@", "3", "3@ann", "@ann", "ann@3@", "@ann@3", "ann@@3", "ann@3@4", "ann@b@3", "ann@3@3", "a@n@3", "ann@3@ann",
		"ann@00", "ann@019", "ann@000000000000000000003", "ann@+3", "ann@+0", "ann@-0", "ann@-1", "ann@-3", "ann@ 3", "ann@3 ", "ann @3", " ann@3", "ann@3\n", "ann@3\x00", "ann@\t3", "ann@3a", "ann@a", "ann@3_", "ann@1_0", "ann@0x3", "ann@1e1", "ann@3.0", "ann@\u0663", "ann@\uff13", "ann@\xff", "ann\xff@3", "ann@3\xff",
		"ann@20", "ann@21", "ann@30", "ann@99", "ann@100", "ann@190", "ann@256", "ann@259", "ann@4294967299", "ann@9223372036854775807", "ann@9223372036854775808", "ann@18446744073709551616", "ann@18446744073709551619", "ann@340282366920938463463374607431768211459", "ann@-9223372036854775808", "ann@-18446744073709551613",
		"ann\uff203", "ann@3\u00e4", "\u00e4@3", "ann%403", "ann.3", "ann:3",
	} {
		refuses(t, s)
		parses(t, s)
	}
	for _, name := range badNames {
		for _, end := range []string{"@3", "@0", "@19", "@20", "@", "x"} {
			refuses(t, name+end)
		}
	}
	for _, name := range goodNames {
		for _, end := range []string{"", "@", "@20", "@-1", "@03", "@+3", "@3 ", "@3@3", "@@3"} {
			refuses(t, name+end)
		}
	}
	refuses(t, "ann@"+strings.Repeat("0", 1<<20)+"3")
	refuses(t, "ann@"+strings.Repeat("9", 1<<20))
	refuses(t, strings.Repeat("ann@", 1<<18)+"3")
}

// P11.2: all short strings of the bytes that matter.
func TestParseShort(t *testing.T) {
	var visit func(s string)
	visit = func(s string) {
		parses(t, s)
		if len(s) == 6 {
			return
		}
		for _, c := range "az019@_-A" {
			visit(s + string(c))
		}
	}
	visit("")
}

// P11.2: handles of which one byte is changed, left out, added or repeated.
func TestParseChanged(t *testing.T) {
	for _, s := range []string{"a@3", "ann@0", "z_9@10", "z_9@19", strings.Repeat("b", 24) + "@7"} {
		for i := range len(s) + 1 {
			for c := range 256 {
				parses(t, s[:i]+string([]byte{byte(c)})+s[i:])
				if i < len(s) {
					parses(t, with(s, i, byte(c)))
				}
			}
			parses(t, s[:i])
			parses(t, s[i:])
			if i < len(s) {
				parses(t, s[:i]+s[i+1:])
			}
			parses(t, s[:i]+s)
		}
	}
}

// P11.3: lists of all lengths up to two more than MaxTo, and much longer ones.
func TestIdsLength(t *testing.T) {
	accepts(t, nil, true)
	accepts(t, []string{}, true)
	list := made(120)
	if len(list) < maxIds+2 {
		t.Fatal("too few ids")
	}
	for n := range maxIds + 3 {
		accepts(t, list[:n], n <= maxIds)
	}
	accepts(t, list, false)
	var long []string
	for i := range 1 << 16 {
		s := strconv.FormatInt(int64(i), 16)
		long = append(long, strings.Repeat("0", 16-len(s))+s)
	}
	for _, n := range []int{64, 65, 128, 256, 256 + 64, 1 << 16} {
		accepts(t, long[:n], n <= maxIds)
	}
}

// P11.3: two equal elements, and two that are exchanged.
func TestIdsOrder(t *testing.T) {
	for _, n := range []int{2, 3, 7, 63, 64} {
		list := made(120)[:n]
		accepts(t, list, true)
		for i := range list {
			for k := range i {
				swapped := slices.Clone(list)
				swapped[i], swapped[k] = swapped[k], swapped[i]
				accepts(t, swapped, false)
				equal := slices.Clone(list)
				equal[i] = equal[k]
				accepts(t, equal, false)
			}
			// Two equal elements next to each other, in a list that is not longer than it may be.
			if n < maxIds {
				accepts(t, slices.Insert(slices.Clone(list), i, list[i]), false)
			}
		}
		slices.Reverse(list)
		accepts(t, list, false)
	}
	for _, pair := range [][2]string{
		{"0000000000000009", "000000000000000a"}, {"9fffffffffffffff", "a000000000000000"}, {"0000000f00000000", "0000001000000000"},
		{"00000000000000ff", "0000000000000100"}, {"0000000000000000", "0000000000000001"}, {"fffffffffffffffe", "ffffffffffffffff"},
	} {
		accepts(t, []string{pair[0], pair[1]}, true)
		accepts(t, []string{pair[1], pair[0]}, false)
		accepts(t, []string{pair[0], pair[0]}, false)
		accepts(t, []string{pair[1], pair[1]}, false)
	}
}

// wrongIds returns strings that are no ids and lie between two ids, or before the first id or behind the last one if low or high is "".
func wrongIds(low, high string) []string {
	list := []string{"", "/", "\x00", "-000000000000000", "g", "gggggggggggggggg", "\xff", "fffffffffffffffff", "z"}
	if low != "" {
		list = append(list, low+"0", low+"\x00", with(low, 15, 'g'), with(low, 15, '~'), with(low, 15, '\xff'), with(low, 15, '`'))
	}
	if high != "" {
		list = append(list, high[:15], with(high, 15, '/'), with(high, 15, ' '), with(high, 15, '\x00'))
	}
	return slices.DeleteFunc(list, func(s string) bool { return s <= low && low != "" || s >= high && high != "" })
}

// P11.3: an element that is no id, at each place, in lists that are in order and whose other elements are ids.
func TestIdsElements(t *testing.T) {
	base := slices.DeleteFunc(made(120), func(s string) bool { return strings.Contains("0f", s[15:]) })[:30]
	tried := map[int]int{}
	for i := range len(base) + 1 {
		low, high := "", ""
		if i > 0 {
			low = base[i-1]
		}
		if i < len(base) {
			high = base[i]
		}
		for _, s := range wrongIds(low, high) {
			tried[cmp.Compare(len(s), 16)]++
			l := slices.Insert(slices.Clone(base), i, s)
			if !slices.IsSorted(l) {
				t.Fatalf("%q is not in order", l)
			}
			accepts(t, l, false)
		}
	}
	for _, n := range []int{-1, 0, 1} {
		if tried[n] < 20 {
			t.Error("only", tried[n], "shorter, equally long or longer strings")
		}
	}
	for _, s := range []string{"", "a", "ann", "000000000000000", "00000000000000000", "000000000000000A", "000000000000000g", "00000000000000\u00e4"} {
		accepts(t, []string{s}, false)
		accepts(t, []string{s, "ffffffffffffffff"}, false)
		accepts(t, []string{"0000000000000000", s}, false)
	}
}

// P11.4: the results do not depend on what was called before or is called at the same time.
func TestPure(t *testing.T) {
	list := made(120)[:maxIds]
	all := func() string {
		var b strings.Builder
		for _, public := range keys {
			b.WriteString(ident.Of(public) + strconv.FormatBool(ident.Right(ident.Of(public)+"0")))
		}
		for _, s := range slices.Concat(goodNames, badNames) {
			b.WriteString(strconv.FormatBool(ident.Name(s)) + ident.Handle(s, len(s)))
			name, server, ok := ident.Parse(s + "@7")
			b.WriteString(name + strconv.Itoa(server) + strconv.FormatBool(ok))
		}
		for n := range list {
			b.WriteString(strconv.FormatBool(ident.Ids(list[n:])) + strconv.FormatBool(ident.Ids(append(list[n:n:n], list...))))
		}
		return b.String()
	}
	want := all()
	var got [8]string
	var group sync.WaitGroup
	for i := range got {
		group.Go(func() { got[i] = all() })
	}
	group.Wait()
	for _, s := range got {
		if s != want {
			t.Error("the results differ")
		}
	}
}

// P11.4 and P3: Ids does not change the list, keeps nothing of it, and reads nothing beyond its length.
func TestIdsMemory(t *testing.T) {
	whole := append(made(120)[:maxIds], "behind the list", "", "0000000000000000")
	before := slices.Clone(whole)
	for n := range maxIds + 1 {
		accepts(t, whole[:n], true)
		accepts(t, whole[maxIds-n:maxIds], true)
	}
	accepts(t, whole, false)
	if !slices.Equal(whole, before) {
		t.Error("Ids changed its argument")
	}
	list := slices.Clone(whole[:5])
	accepts(t, list, true)
	list[2] = list[1]
	accepts(t, list, false)
	list[2] = before[2]
	accepts(t, list, true)
	list[4] = "no id"
	accepts(t, list, false)
}

// P11.5: every result of Of is an id.
func TestOfIsRight(t *testing.T) {
	r := rand.New(rand.NewSource(12))
	list := slices.Clone(keys)
	for i := range 2000 {
		list = append(list, i-1000, int(r.Uint64()))
	}
	for _, public := range list {
		if s := ident.Of(public); !ident.Right(s) || !isId(s) || !ident.Ids([]string{s}) {
			t.Errorf("Of(%d) = %q", public, s)
		}
	}
}

// P11.5: Parse returns what Handle was given, and different pairs have different handles.
func TestHandleAndParse(t *testing.T) {
	r := rand.New(rand.NewSource(13))
	names := slices.Clone(goodNames)
	for range 300 {
		b := []byte{letters[r.Intn(len(letters))]}
		for range r.Intn(maxName) {
			b = append(b, inside[r.Intn(len(inside))])
		}
		names = append(names, string(b))
	}
	slices.Sort(names)
	seen := map[string]bool{}
	for _, name := range slices.Compact(names) {
		for server := range servers {
			s := ident.Handle(name, server)
			if seen[s] {
				t.Errorf("two pairs have the handle %q", s)
			}
			seen[s] = true
			if n, k, ok := ident.Parse(s); n != name || k != server || !ok {
				t.Errorf("Parse(%q) = %q, %d, %v", s, n, k, ok)
			}
		}
	}
}

// P11.5: Handle returns what Parse was given.
func TestParseAndHandle(t *testing.T) {
	r := rand.New(rand.NewSource(14))
	found := 0
	for range 200000 {
		b := make([]byte, 1+r.Intn(6))
		for i := range b {
			b[i] = "ab1@09_"[r.Intn(7)]
		}
		s := string(b)
		parses(t, s)
		if name, server, ok := ident.Parse(s); ok {
			found++
			if got := ident.Handle(name, server); got != s {
				t.Errorf("Handle(%q, %d) = %q, want %q", name, server, got, s)
			}
		}
	}
	if found < 1000 {
		t.Error("only", found, "handles")
	}
}

// P11.6: every sublist of a short list, and every order of it.
func TestSublists(t *testing.T) {
	all := made(120)
	list := []string{all[0], all[1], all[5], all[30], all[31], all[80]}
	for set := range 1 << len(list) {
		var part []string
		for i, s := range list {
			if set>>i&1 == 1 {
				part = append(part, s)
			}
		}
		orders(part, 0, func(l []string) { accepts(t, l, slices.Equal(l, slices.Sorted(slices.Values(part)))) })
	}
}

// orders visits every order of l, of which it exchanges the elements from index k on.
func orders(l []string, k int, visit func(l []string)) {
	if k >= len(l) {
		visit(slices.Clone(l))
		return
	}
	for i := k; i < len(l); i++ {
		l[k], l[i] = l[i], l[k]
		orders(l, k+1, visit)
		l[k], l[i] = l[i], l[k]
	}
}

// P11.6: sublists and orders of long lists.
func TestLongSublists(t *testing.T) {
	r := rand.New(rand.NewSource(15))
	for range 2000 {
		list := made(120)
		r.Shuffle(len(list), func(i, k int) { list[i], list[k] = list[k], list[i] })
		list = list[:r.Intn(maxIds+1)]
		slices.Sort(list)
		accepts(t, list, true)
		part := slices.DeleteFunc(slices.Clone(list), func(string) bool { return r.Intn(3) == 0 })
		accepts(t, part, true)
		other := slices.Clone(part)
		r.Shuffle(len(other), func(i, k int) { other[i], other[k] = other[k], other[i] })
		accepts(t, other, slices.Equal(other, part))
	}
}
