package merkle_test

import (
	"crypto/sha256"
	"encoding/hex"
	"math"
	"math/rand"
	"slices"
	"strconv"
	"strings"
	"sync"
	"testing"

	"agora/merkle"
)

// sha is the library's digest.
func sha(s string) string {
	d := sha256.Sum256([]byte(s))
	return string(d[:])
}

func leaf(s string) string { return sha("\x00" + s) }

func node(l, r string) string { return sha("\x01" + l + r) }

// levels returns the nodes of a tree of at least one leaf, level by level from the leaves on. The last node of a level with an odd number of nodes rises to the next one as it is.
func levels(leaves []string) [][]string {
	list := [][]string{leaves}
	for len(leaves) > 1 {
		var above []string
		for i := 0; i < len(leaves); i += 2 {
			if i+1 < len(leaves) {
				above = append(above, node(leaves[i], leaves[i+1]))
			} else {
				above = append(above, leaves[i])
			}
		}
		list = append(list, above)
		leaves = above
	}
	return list
}

// rootOf returns the root of leaves.
func rootOf(leaves []string) string {
	if len(leaves) == 0 {
		return sha("")
	}
	l := levels(leaves)
	return l[len(l)-1][0]
}

// siblings returns the siblings, level by level, of the node i of the lowest level and of those above it.
func siblings(levels [][]string, i int) []string {
	var list []string
	for _, level := range levels {
		if i^1 < len(level) {
			list = append(list, level[i^1])
		}
		i /= 2
	}
	return list
}

// pathOf returns the path of i.
func pathOf(leaves []string, i int) []string { return siblings(levels(leaves), i) }

// linkOf returns the link of m: it begins with the greatest tree that ends with the leaf m - 1, unless its leaves are all old ones.
func linkOf(leaves []string, m int) []string {
	if m == 0 || m == len(leaves) {
		return nil
	}
	l, i := levels(leaves), m-1
	for i%2 == 1 {
		l, i = l[1:], i/2
	}
	if i == 0 {
		return siblings(l, i)
	}
	return append([]string{l[0][i]}, siblings(l, i)...)
}

// fold computes the result of a path as RFC 9162 verifies it, from the leaf up; false if the path is too short or too long.
func fold(x string, i, n int, path []string) (string, bool) {
	last := n - 1
	for _, q := range path {
		if last == 0 {
			return x, false
		}
		if i%2 == 0 && i < last {
			x = node(x, q)
		} else {
			x = node(q, x)
			for i%2 == 0 && i != 0 {
				i, last = i/2, last/2
			}
		}
		i, last = i/2, last/2
	}
	return x, last == 0
}

// foldBoth computes the roots of a link, 0 < m < n, as RFC 9162 verifies it.
func foldBoth(m, n int, old string, link []string) (a, b string, ok bool) {
	if m&(m-1) == 0 {
		link = append([]string{old}, link...)
	}
	if len(link) == 0 {
		return "", "", false
	}
	i, last := m-1, n-1
	for i%2 == 1 {
		i, last = i/2, last/2
	}
	a, b = link[0], link[0]
	for _, q := range link[1:] {
		if last == 0 {
			return a, b, false
		}
		if i%2 == 0 && i < last {
			b = node(b, q)
		} else {
			a, b = node(q, a), node(q, b)
			for i%2 == 0 && i != 0 {
				i, last = i/2, last/2
			}
		}
		i, last = i/2, last/2
	}
	return a, b, last == 0
}

// steps returns the number of elements of the paths of i in n leaves.
func steps(i, n int) int {
	count := 0
	for last := n - 1; last > 0; i, last = i/2, last/2 {
		if i%2 == 1 || i < last {
			count++
		}
	}
	return count
}

// linkSteps returns the number of elements of the links from m to n leaves, 0 < m < n.
func linkSteps(m, n int) int {
	i, last := m-1, n-1
	for i%2 == 1 {
		i, last = i/2, last/2
	}
	if i == 0 {
		return steps(i, last+1)
	}
	return 1 + steps(i, last+1)
}

// allDigests reports whether all strings of the lists have 32 bytes.
func allDigests(lists ...[]string) bool {
	for _, l := range lists {
		for _, s := range l {
			if len(s) != 32 {
				return false
			}
		}
	}
	return true
}

// included is the contract of Includes.
func included(x string, i, n int, root string, path []string) bool {
	if i < 0 || i >= n || !allDigests(path, []string{x}) {
		return false
	}
	got, ok := fold(x, i, n, path)
	return ok && got == root
}

// extended is the contract of Extends.
func extended(m, n int, old, now string, link []string) bool {
	if m < 0 || m > n || !allDigests(link, []string{old, now}) {
		return false
	}
	if m == 0 && old == sha("") && len(link) == 0 || m == n && now == old && len(link) == 0 {
		return true
	}
	if m == 0 || m == n {
		return false
	}
	a, b, ok := foldBoth(m, n, old, link)
	return ok && a == old && b == now
}

// digests returns n different digests.
func digests(n int) []string {
	l := make([]string, n)
	for i := range l {
		l[i] = leaf(strconv.Itoa(i))
	}
	return l
}

// drawn returns n digests that are different in every list.
func drawn(r *rand.Rand, n int) []string {
	l := make([]string, n)
	for i := range l {
		l[i] = sha(strconv.Itoa(r.Int()))
	}
	return l
}

// odd returns n strings most of which are no digests: empty ones, equal ones, long ones, and nodes that are not yet hashed.
func odd(r *rand.Rand, n int) []string {
	l := make([]string, n)
	for i := range l {
		switch d := sha(strconv.Itoa(i)); r.Intn(7) {
		case 0:
			l[i] = d
		case 1:
			l[i] = d[:31]
		case 2:
			l[i] = d + "x"
		case 3:
			l[i] = "x"
		case 4:
			l[i] = strings.Repeat(d, 1+r.Intn(9))
		case 5:
			l[i] = "\x01" + d + d
		}
	}
	return l
}

// lists returns lists of n leaves: digests, other strings, and equal ones.
func lists(n int) [][]string {
	r := rand.New(rand.NewSource(int64(n)))
	return [][]string{digests(n), odd(r, n), odd(r, n), slices.Repeat([]string{""}, n), slices.Repeat([]string{leaf("")}, n)}
}

// sizes returns no, one, two, three and more leaves, and for each power of two this number, one less and one more.
func sizes() []int {
	var list []int
	for n := range 36 {
		list = append(list, n)
	}
	return append(list, 63, 64, 65, 127, 128, 129, 255, 256, 257, 1000)
}

// large returns sizes of which there are no lists.
func large(r *rand.Rand) []int {
	list := []int{1 << 31, 1 << 32, 1<<62 - 1, 1 << 62, 1<<62 + 1, math.MaxInt - 1, math.MaxInt}
	for range 6 {
		list = append(list, 2+r.Int()>>r.Intn(56))
	}
	return list
}

// within returns numbers from 1 to n - 1, n >= 2, at both ends and around the split of n.
func within(r *rand.Rand, n int) []int {
	k := 1
	for k < n-k {
		k *= 2
	}
	list := []int{1, 2, 3, k - 1, k, k + 1, n / 2, n - 2, n - 1}
	for range 3 {
		list = append(list, 1+r.Intn(n-1), 1<<r.Intn(62))
	}
	return slices.DeleteFunc(list, func(m int) bool { return m < 1 || m >= n })
}

// outside returns indices that no list of n leaves has, and that are no number of its leaves either, but for n itself.
func outside(n int) []int {
	return []int{-1, -2, -n - 1, math.MinInt, math.MinInt + 1, n, n + 1, n + 2, 2*n + 1, 1 << 40, math.MaxInt - 1, math.MaxInt}
}

// notDigests returns strings with almost as many bytes as a digest, and others.
func notDigests() []string {
	d := sha("d")
	return []string{"", "x", d[:31], d[1:], d + "\x00", "\x00" + d, d + d, "\x01" + d + d, hex.EncodeToString([]byte(d))}
}

// with returns a copy of l with another element at i.
func with(l []string, i int, s string) []string {
	l = slices.Clone(l)
	l[i] = s
	return l
}

// without returns a copy of l without the element at i.
func without(l []string, i int) []string { return slices.Delete(slices.Clone(l), i, i+1) }

// unhex returns the strings of hexadecimal digits.
func unhex(t *testing.T, digits ...string) []string {
	t.Helper()
	var list []string
	for _, s := range digits {
		b, err := hex.DecodeString(s)
		if err != nil {
			t.Fatal(err)
		}
		list = append(list, string(b))
	}
	return list
}

func roots(t *testing.T, leaves []string, want string) {
	t.Helper()
	if got := merkle.Root(leaves); got != want {
		t.Errorf("Root of %d leaves: %x, not %x", len(leaves), got, want)
	}
}

func paths(t *testing.T, leaves []string, i int, want []string) {
	t.Helper()
	if got, ok := merkle.Path(leaves, i); !ok || !slices.Equal(got, want) {
		t.Errorf("Path of %d in %d leaves: %x, %v, not %x", i, len(leaves), got, ok, want)
	}
}

func pathsNot(t *testing.T, leaves []string, i int) {
	t.Helper()
	if got, ok := merkle.Path(leaves, i); ok || got != nil {
		t.Errorf("Path of %d in %d leaves: %x, %v", i, len(leaves), got, ok)
	}
}

func links(t *testing.T, leaves []string, m int, want []string) {
	t.Helper()
	if got, ok := merkle.Link(leaves, m); !ok || !slices.Equal(got, want) {
		t.Errorf("Link of %d in %d leaves: %x, %v, not %x", m, len(leaves), got, ok, want)
	}
}

func linksNot(t *testing.T, leaves []string, m int) {
	t.Helper()
	if got, ok := merkle.Link(leaves, m); ok || got != nil {
		t.Errorf("Link of %d in %d leaves: %x, %v", m, len(leaves), got, ok)
	}
}

func includes(t *testing.T, x string, i, n int, root string, path []string, want bool) {
	t.Helper()
	if got := merkle.Includes(x, i, n, root, path); got != want {
		t.Errorf("Includes(%x, %d, %d, %x, %d elements) = %v", x, i, n, root, len(path), got)
	}
}

func extends(t *testing.T, m, n int, old, now string, link []string, want bool) {
	t.Helper()
	if got := merkle.Extends(m, n, old, now, link); got != want {
		t.Errorf("Extends(%d, %d, %x, %x, %d elements) = %v", m, n, old, now, len(link), got)
	}
}

// known returns the leaves of the examples that implementations of RFC 6962 are tested with.
func known(t *testing.T) []string {
	t.Helper()
	var l []string
	for _, s := range unhex(t, "", "00", "10", "2021", "3031", "40414243", "5051525354555657", "606162636465666768696a6b6c6d6e6f") {
		l = append(l, merkle.Leaf(s))
	}
	return l
}

// P8.1: leaves, among them those of strings that look like leaves and nodes before they are hashed.
func TestLeaf(t *testing.T) {
	if got, want := merkle.Leaf(""), unhex(t, "6e340b9cffb37a989ca544e6bb780a2c78901d3fb33738768511a30617afa01d")[0]; got != want {
		t.Errorf("%x", got)
	}
	d := sha("d")
	list := []string{"", "a", "\x00", "\x01", "\x00a", "\x01" + d + d, d, d[:31], d + "x", "gr\u00fc\u00dfe", "\xff\xfe"}
	for n := range 130 {
		list = append(list, strings.Repeat("s", n))
	}
	for _, s := range list {
		if got := merkle.Leaf(s); got != leaf(s) {
			t.Errorf("Leaf(%.40q): %x, not %x", s, got, leaf(s))
		}
	}
}

// P8.1: the roots of the examples for RFC 6962, and one that was computed by another program.
func TestRootKnown(t *testing.T) {
	l := known(t)
	for n, want := range unhex(t,
		"e3b0c44298fc1c149afbf4c8996fb92427ae41e4649b934ca495991b7852b855",
		"6e340b9cffb37a989ca544e6bb780a2c78901d3fb33738768511a30617afa01d",
		"fac54203e7cc696cf0dfcb42c92a1d9dbaf70ad9e621f4bd8d98662f00e3c125",
		"aeb6bcfe274b70a14fb067a5e5578264db0fa9b51af5e0ba159158f329e06e77",
		"d37ee418976dd95753c1c73862b9398fa2a2cf9b4ff0fdfe8b30cd95209614b7",
		"4e3bbb1f7b478dcfe71fb631631519a3bca12c9aefca1612bfce4c13a86264d4",
		"76e67dadbcdf1e10e1b74ddc608abd2f98dfb16fbce75277b5232a127f2087ef",
		"ddb89be403809e325750d3d263cd78929c2942b7942a34b77e122c9594a74c8c",
		"5dc9da79a70659a9ad559cb701ded9a2ab9d823aad2f4960cfe370eff4604328",
	) {
		roots(t, l[:n], want)
	}
	roots(t, digests(1000), unhex(t, "638afa98022925bacfddadb15ef22fd0199c1ac99c2973b6158243d13fce05c2")[0])
}

// P8.1: the roots of lists of all kinds of strings and of all sizes.
func TestRoot(t *testing.T) {
	for _, n := range sizes() {
		for _, l := range lists(n) {
			roots(t, l, rootOf(l))
		}
	}
}

// P8.1: the root of no leaves is not that of an empty one, and the order of the leaves and how often each occurs count.
func TestRootSmall(t *testing.T) {
	roots(t, nil, sha(""))
	roots(t, []string{}, sha(""))
	for _, s := range append(notDigests(), leaf("a")) {
		roots(t, []string{s}, s)
		roots(t, []string{s, "b"}, node(s, "b"))
		roots(t, []string{"b", s}, node("b", s))
		roots(t, []string{s, s, s}, node(node(s, s), s))
	}
	seen := map[string]string{}
	for _, s := range []string{"", "a", "b", "aa", "ab", "ba", "aab", "aba", "baa", "abb", "aaab", "abab", "aabb", "ababa", "aabab"} {
		var l []string
		for _, c := range s {
			l = append(l, leaf(string(c)))
		}
		root := merkle.Root(l)
		if other, ok := seen[root]; ok {
			t.Errorf("%q has the root of %q", s, other)
		}
		seen[root] = s
	}
}

// P8.2: paths that were computed by another program.
func TestPathKnown(t *testing.T) {
	l := known(t)
	paths(t, l, 0, unhex(t, "96a296d224f285c67bee93c30f8a309157f0daa35dc5b87e410b78630a09cfc7", "5f083f0a1a33ca076a95279832580db3e0ef4584bdff1f54c8a360f50de3031e", "6b47aaf29ee3c2af9af889bc1fb9254dabd31177f16232dd6aab035ca39bf6e4"))
	paths(t, l, 5, unhex(t, "bc1a0643b12e4d2d7c77918f44e0f4f79a838b6cf9ec5b5c283e1f4d88599e6b", "ca854ea128ed050b41b35ffc1b87b8eb2bde461e9e3b5596ece6b9d5975a0ae0", "d37ee418976dd95753c1c73862b9398fa2a2cf9b4ff0fdfe8b30cd95209614b7"))
	paths(t, l[:3], 2, unhex(t, "fac54203e7cc696cf0dfcb42c92a1d9dbaf70ad9e621f4bd8d98662f00e3c125"))
	paths(t, l[:5], 1, unhex(t, "6e340b9cffb37a989ca544e6bb780a2c78901d3fb33738768511a30617afa01d", "5f083f0a1a33ca076a95279832580db3e0ef4584bdff1f54c8a360f50de3031e", "bc1a0643b12e4d2d7c77918f44e0f4f79a838b6cf9ec5b5c283e1f4d88599e6b"))
}

// P8.2: the paths of all indices, from 0 to n - 1; no path for any other one.
func TestPath(t *testing.T) {
	for _, n := range sizes() {
		for _, l := range lists(n) {
			step := 1 + n/40
			for i := 0; i < n; i += step {
				paths(t, l, i, pathOf(l, i))
			}
			if n > 0 {
				paths(t, l, n-1, pathOf(l, n-1))
			}
			for _, i := range outside(n) {
				pathsNot(t, l, i)
				// What is beyond the length of a slice is no leaf.
				pathsNot(t, append(slices.Clone(l), digests(3)...)[:n], i)
			}
		}
	}
	pathsNot(t, nil, 0)
	pathsNot(t, nil, -1)
}

// P8.2: a path is accepted for the indices and sizes at which its result is the root, and for no other ones.
func TestIncludesPlaces(t *testing.T) {
	for n := 1; n <= 20; n++ {
		l := digests(n)
		root := rootOf(l)
		for i := range n {
			path := pathOf(l, i)
			for _, other := range []int{0, 1, 2, n - 1, n, n + 1, 2 * n, 32, math.MaxInt, -1, -n, math.MinInt} {
				for _, j := range append(outside(n), 0, 1, i-1, i, i+1, n-1) {
					includes(t, l[i], j, other, root, path, included(l[i], j, other, root, path))
				}
			}
			includes(t, l[i], i, n, root, path, true)
			includes(t, l[i], i-n, n, root, path, false)
			includes(t, l[i], i+n, n, root, path, false)
		}
	}
}

// P8.2: the result of a path is computed for every size, up to the greatest one; another root, leaf or element is not accepted.
func TestIncludesLarge(t *testing.T) {
	r := rand.New(rand.NewSource(1))
	for _, n := range large(r) {
		for _, i := range append(within(r, n), 0) {
			path, x := drawn(r, steps(i, n)), leaf("x")
			root, ok := fold(x, i, n, path)
			if !ok {
				t.Fatalf("the model has no result for %d of %d", i, n)
			}
			includes(t, x, i, n, root, path, true)
			includes(t, x, i, n, sha("?"), path, false)
			includes(t, leaf("?"), i, n, root, path, false)
			for k := range path {
				includes(t, x, i, n, root, with(path, k, sha("?")), false)
			}
			if k := r.Intn(len(path)); k > 0 {
				includes(t, x, i, n, root, with(with(path, k, path[0]), 0, path[k]), false)
			}
		}
		for _, i := range []int{-1, math.MinInt, n} {
			includes(t, leaf("x"), i, n, leaf("x"), nil, false)
			includes(t, leaf("x"), i, n, sha("?"), drawn(r, 62), false)
		}
	}
}

// P8.2: a path with too few or too many elements has no result, neither that of the elements that are there nor that of those that are needed.
func TestIncludesLengths(t *testing.T) {
	r := rand.New(rand.NewSource(2))
	check := func(x string, i, n int) {
		path := drawn(r, steps(i, n))
		root, _ := fold(x, i, n, path)
		q := sha("?")
		for _, long := range [][]string{append(slices.Clone(path), q), append([]string{q}, path...), append(drawn(r, 100), path...), append(slices.Clone(path), drawn(r, 100)...)} {
			for _, wrong := range []string{root, node(root, q), node(q, root), x} {
				includes(t, x, i, n, wrong, long, false)
			}
		}
		if len(path) == 0 {
			return
		}
		last := len(path) - 1
		short, _ := fold(x, i, n, path[:last])
		for _, wrong := range []string{root, short, x, path[last]} {
			includes(t, x, i, n, wrong, path[:last], false)
			includes(t, x, i, n, wrong, path[1:], false)
			includes(t, x, i, n, wrong, nil, false)
			includes(t, x, i, n, wrong, []string{}, false)
		}
		includes(t, node(x, path[0]), i, n, root, path[1:], false)
		includes(t, node(path[0], x), i, n, root, path[1:], false)
		includes(t, root, i, n, root, nil, false)
	}
	for n := 1; n <= 36; n++ {
		for i := range n {
			check(leaf("x"), i, n)
		}
	}
	for _, n := range large(r) {
		for _, i := range append(within(r, n), 0) {
			check(leaf("x"), i, n)
		}
	}
	includes(t, leaf("x"), 0, 1, leaf("x"), drawn(r, 100000), false)
	includes(t, leaf("x"), 5, math.MaxInt, leaf("x"), drawn(r, 100000), false)
}

// P8.2: a leaf or an element that is no digest is refused, even if the result is the root.
func TestIncludesDigests(t *testing.T) {
	for n := 1; n <= 17; n++ {
		for i := range n {
			l := digests(n)
			path := pathOf(l, i)
			for _, s := range notDigests() {
				root, _ := fold(s, i, n, path)
				includes(t, s, i, n, root, path, false)
				includes(t, l[i], i, n, s, path, false)
				for k := range path {
					bad := with(path, k, s)
					root, _ := fold(l[i], i, n, bad)
					includes(t, l[i], i, n, root, bad, false)
				}
			}
		}
		r := rand.New(rand.NewSource(int64(n)))
		for range 5 {
			l := odd(r, n)
			for i := range n {
				path := pathOf(l, i)
				includes(t, l[i], i, n, rootOf(l), path, allDigests(path, l[i:i+1]))
			}
		}
	}
}

// P8.2: no leaf is included in no leaves, and exactly itself, at index 0, in one.
func TestIncludesSmall(t *testing.T) {
	x, y := leaf("x"), leaf("y")
	for _, i := range []int{-1, 0, 1, math.MinInt, math.MaxInt} {
		for _, n := range []int{0, -1, math.MinInt} {
			for _, path := range [][]string{nil, {y}, {x, y}} {
				for _, root := range []string{x, sha(""), node(x, y), ""} {
					includes(t, x, i, n, root, path, false)
				}
			}
		}
		includes(t, x, i, 1, x, nil, i == 0)
		includes(t, x, i, 1, y, nil, false)
		includes(t, x, i, 1, sha(""), nil, false)
		includes(t, x, i, 1, x, []string{y}, false)
		includes(t, x, i, 1, node(x, y), []string{y}, false)
		includes(t, x, i, 2, node(x, y), []string{y}, i == 0)
		includes(t, x, i, 2, node(y, x), []string{y}, i == 1)
		includes(t, x, i, 2, x, nil, false)
	}
}

// P8.3: links that were computed by another program.
func TestLinkKnown(t *testing.T) {
	l := known(t)
	links(t, l, 1, unhex(t, "96a296d224f285c67bee93c30f8a309157f0daa35dc5b87e410b78630a09cfc7", "5f083f0a1a33ca076a95279832580db3e0ef4584bdff1f54c8a360f50de3031e", "6b47aaf29ee3c2af9af889bc1fb9254dabd31177f16232dd6aab035ca39bf6e4"))
	links(t, l, 6, unhex(t, "0ebc5d3437fbe2db158b9f126a1d118e308181031d0a949f8dededebc558ef6a", "ca854ea128ed050b41b35ffc1b87b8eb2bde461e9e3b5596ece6b9d5975a0ae0", "d37ee418976dd95753c1c73862b9398fa2a2cf9b4ff0fdfe8b30cd95209614b7"))
	links(t, l[:5], 2, unhex(t, "5f083f0a1a33ca076a95279832580db3e0ef4584bdff1f54c8a360f50de3031e", "bc1a0643b12e4d2d7c77918f44e0f4f79a838b6cf9ec5b5c283e1f4d88599e6b"))
}

// P8.3: the links of all numbers of old leaves, from 0 to n; no link for any other one.
func TestLink(t *testing.T) {
	for _, n := range sizes() {
		for _, l := range lists(n) {
			step := 1 + n/40
			for m := 0; m < n; m += step {
				links(t, l, m, linkOf(l, m))
			}
			links(t, l, 0, nil)
			links(t, l, n, nil)
			if n > 0 {
				links(t, l, n-1, linkOf(l, n-1))
			}
			for _, m := range outside(n) {
				if m != n {
					linksNot(t, l, m)
					linksNot(t, append(slices.Clone(l), digests(3)...)[:n], m)
				}
			}
		}
	}
	links(t, nil, 0, nil)
	linksNot(t, nil, 1)
	linksNot(t, nil, -1)
}

// P8.3: from no leaves on, the old root is that of no leaves, the link is empty, and the new root is any digest; a size of 0 is no exception.
func TestExtendsNone(t *testing.T) {
	empty, x := sha(""), leaf("x")
	for _, n := range []int{0, 1, 2, 3, 4, 1 << 40, math.MaxInt} {
		for _, now := range []string{empty, x, leaf("y"), strings.Repeat("\x00", 32)} {
			extends(t, 0, n, empty, now, nil, true)
			extends(t, 0, n, empty, now, []string{}, true)
			extends(t, 0, n, empty, now, []string{x}, false)
			extends(t, 0, n, empty, now, []string{empty}, false)
			extends(t, 0, n, empty, now, []string{x, x}, false)
			extends(t, 0, n, x, now, []string{x}, false)
			// With another old root, only the second case is left: n is 0, and both roots are the same.
			extends(t, 0, n, x, now, nil, n == 0 && now == x)
		}
		for _, s := range notDigests() {
			extends(t, 0, n, empty, s, nil, false)
			extends(t, 0, n, s, s, nil, false)
			extends(t, 0, n, s, x, nil, false)
		}
		extends(t, 0, n, x, node(x, x), []string{x}, false)
	}
}

// P8.3: from all leaves on, both roots are the same digest, and the link is empty.
func TestExtendsAll(t *testing.T) {
	for _, n := range []int{1, 2, 3, 4, 5, 7, 8, 9, 1 << 40, 1 << 62, math.MaxInt - 1, math.MaxInt} {
		x, y := leaf("x"), leaf("y")
		extends(t, n, n, x, x, nil, true)
		extends(t, n, n, x, x, []string{}, true)
		extends(t, n, n, x, y, nil, false)
		extends(t, n, n, sha(""), x, nil, false)
		extends(t, n, n, x, sha(""), nil, false)
		extends(t, n, n, x, x, []string{x}, false)
		extends(t, n, n, x, x, []string{y}, false)
		extends(t, n, n, x, x, []string{x, x}, false)
		extends(t, n, n, x, node(x, y), []string{y}, false)
		extends(t, n, n, x, node(y, x), []string{y}, false)
		for _, s := range notDigests() {
			extends(t, n, n, s, s, nil, false)
			extends(t, n, n, s, x, nil, false)
			extends(t, n, n, x, s, nil, false)
		}
	}
	l := digests(9)
	for n := 1; n <= 9; n++ {
		extends(t, n, n, rootOf(l[:n]), rootOf(l[:n]), nil, true)
		extends(t, n, n, rootOf(l[:n]), rootOf(with(l[:n], n-1, leaf("?"))), nil, false)
	}
}

// P8.3: a link is accepted for the numbers at which the roots result from it, and for no other ones, with the roots in their order.
func TestExtendsPlaces(t *testing.T) {
	for n := range 18 {
		l := digests(n)
		now := rootOf(l)
		for m := range n + 1 {
			old, link := rootOf(l[:m]), linkOf(l, m)
			for _, size := range []int{0, 1, 2, n - 1, n, n + 1, 2 * n, 32, math.MaxInt, -1, math.MinInt} {
				for _, j := range append(outside(n), 0, 1, m-1, m, m+1) {
					extends(t, j, size, old, now, link, extended(j, size, old, now, link))
					extends(t, j, size, now, old, link, extended(j, size, now, old, link))
				}
			}
			extends(t, m, n, old, now, link, true)
			if m < n {
				extends(t, n, m, old, now, link, false)
				extends(t, n, m, now, old, link, false)
			}
			if m > 0 && m < n {
				extends(t, m, n, now, old, link, false)
				extends(t, m, n, old, old, link, false)
				extends(t, m, n, now, now, link, false)
			}
		}
	}
}

// P8.3: the roots of a link are computed for every size, up to the greatest one; other roots or another element are not accepted.
func TestExtendsLarge(t *testing.T) {
	r := rand.New(rand.NewSource(3))
	for _, n := range large(r) {
		for _, m := range within(r, n) {
			// The old root is the one element that is not in the link if m is a power of two, and results from the link otherwise.
			link := drawn(r, linkSteps(m, n))
			old, now, ok := foldBoth(m, n, leaf("old"), link)
			if !ok {
				t.Fatalf("the model has no roots for %d of %d", m, n)
			}
			extends(t, m, n, old, now, link, true)
			extends(t, m, n, sha("?"), now, link, false)
			extends(t, m, n, old, sha("?"), link, false)
			extends(t, m, n, now, old, link, false)
			for k := range link {
				extends(t, m, n, old, now, with(link, k, sha("?")), false)
			}
		}
		for _, m := range []int{-1, math.MinInt} {
			extends(t, m, n, leaf("x"), leaf("x"), nil, false)
			extends(t, m, n, sha(""), leaf("x"), nil, false)
			extends(t, m, n, leaf("x"), leaf("y"), drawn(r, 62), false)
		}
		extends(t, n, n-1, leaf("x"), leaf("x"), nil, false)
	}
}

// P8.3: a link with too few or too many elements has no roots, neither those of the elements that are there nor those of the ones that are needed.
func TestExtendsLengths(t *testing.T) {
	r := rand.New(rand.NewSource(4))
	check := func(m, n int) {
		link := drawn(r, linkSteps(m, n))
		old, now, _ := foldBoth(m, n, leaf("old"), link)
		q := sha("?")
		for _, long := range [][]string{append(slices.Clone(link), q), append([]string{q}, link...), append([]string{old}, link...), append(drawn(r, 100), link...), append(slices.Clone(link), drawn(r, 100)...)} {
			for _, wrong := range []string{now, node(now, q), node(q, now), old} {
				extends(t, m, n, old, wrong, long, false)
			}
			extends(t, m, n, node(q, old), node(q, now), long, false)
			extends(t, m, n, node(old, q), node(now, q), long, false)
			extends(t, m, n, long[0], now, long, false)
		}
		last := len(link) - 1
		for _, short := range [][]string{link[:last], link[1:], nil, {}} {
			a, b, _ := foldBoth(m, n, old, short)
			for _, roots := range [][2]string{{old, now}, {old, old}, {now, now}, {a, b}, {old, b}, {a, now}, {q, q}} {
				extends(t, m, n, roots[0], roots[1], short, false)
			}
		}
	}
	for n := 2; n <= 36; n++ {
		for m := 1; m < n; m++ {
			check(m, n)
		}
	}
	for _, n := range large(r) {
		for _, m := range within(r, n) {
			check(m, n)
		}
	}
	extends(t, 3, 5, leaf("x"), leaf("y"), drawn(r, 100000), false)
	extends(t, 3, math.MaxInt, leaf("x"), leaf("y"), drawn(r, 100000), false)
	extends(t, 3, 4, rootOf(digests(3)), rootOf(digests(4)), append([]string{rootOf(digests(3))}, linkOf(digests(4), 3)...), false)
}

// P8.3: an old root or an element that is no digest is refused, even if the roots result from the link.
func TestExtendsDigests(t *testing.T) {
	for n := 2; n <= 17; n++ {
		for m := 1; m < n; m++ {
			l := digests(n)
			old, now, link := rootOf(l[:m]), rootOf(l), linkOf(l, m)
			for _, s := range notDigests() {
				a, b, _ := foldBoth(m, n, s, link)
				extends(t, m, n, s, b, link, false)
				extends(t, m, n, s, now, link, false)
				extends(t, m, n, old, s, link, false)
				extends(t, m, n, a, s, link, false)
				for k := range link {
					bad := with(link, k, s)
					a, b, _ := foldBoth(m, n, old, bad)
					extends(t, m, n, a, b, bad, false)
				}
			}
		}
		r := rand.New(rand.NewSource(int64(n)))
		for range 5 {
			l := odd(r, n)
			for m := 1; m <= n; m++ {
				old, now, link := rootOf(l[:m]), rootOf(l), linkOf(l, m)
				extends(t, m, n, old, now, link, allDigests(link, []string{old, now}))
			}
		}
	}
}

// The examples of the chapter (P8.1 to P8.3).
func TestExamples(t *testing.T) {
	a, b, c, d := merkle.Leaf("a"), merkle.Leaf("b"), merkle.Leaf("c"), merkle.Leaf("d")
	roots(t, nil, sha(""))
	roots(t, []string{a, b, c}, node(node(a, b), c))
	paths(t, []string{a, b, c}, 2, []string{node(a, b)})
	links(t, []string{a, b, c}, 2, []string{c})
	links(t, []string{a, b, c, d}, 3, []string{c, d, node(a, b)})
}

// P8.4: no function changes the list that it is given, neither its elements nor what is beyond its length.
func TestArguments(t *testing.T) {
	r := rand.New(rand.NewSource(5))
	for n := range 20 {
		for _, l := range [][]string{digests(n + 3), odd(r, n+3), drawn(r, n+3)} {
			before := slices.Clone(l)
			check := func(name string, i int) {
				if !slices.Equal(l, before) {
					t.Fatalf("%s of %d with %d strings changes them", name, i, n)
				}
			}
			merkle.Root(l[:n])
			check("Root", 0)
			for i := -1; i <= n+1; i++ {
				merkle.Path(l[:n], i)
				check("Path", i)
				merkle.Link(l[:n], i)
				check("Link", i)
				for _, size := range []int{n, 1 << n, 1<<n + 1, math.MaxInt} {
					merkle.Includes(l[0], i, size, l[1], l[:n])
					check("Includes", i)
					merkle.Extends(i, size, l[0], l[1], l[:n])
					check("Extends", i)
				}
			}
		}
	}
}

// P8.4: a list that is returned shares its memory neither with the leaves nor with that of another call.
func TestResults(t *testing.T) {
	for n := 1; n <= 17; n++ {
		l := digests(n)
		before := slices.Clone(l)
		for i := range n {
			for _, f := range []func([]string, int) ([]string, bool){merkle.Path, merkle.Link} {
				first, _ := f(l, i)
				kept := slices.Clone(first)
				second, _ := f(l, i)
				for k := range first {
					first[k] = "changed"
				}
				_ = append(first[:len(first)/2], "appended")
				third, _ := f(l, i)
				if !slices.Equal(l, before) || !slices.Equal(second, kept) || !slices.Equal(third, kept) {
					t.Errorf("%d of %d: a result shares memory", i, n)
				}
			}
		}
	}
}

// P8.4: each function returns the same again, after calls with other arguments, for equal arguments in other memory, and in several goroutines at once.
func TestPure(t *testing.T) {
	type result struct {
		root, leaf         string
		path, link         string
		paths, links       bool
		includes, extends  bool
		included, extended bool
	}
	all := func(l []string, i int) result {
		n := len(l)
		path, ok1 := merkle.Path(l, i)
		link, ok2 := merkle.Link(l, i)
		root := merkle.Root(l)
		return result{
			root, merkle.Leaf(root), strings.Join(path, "|"), strings.Join(link, "|"), ok1, ok2,
			merkle.Includes(rootOf(l[:min(1, n)]), i, n, root, path), merkle.Extends(i, n, rootOf(l[:max(0, min(i, n))]), root, link),
			merkle.Includes(root, i, n, root, link), merkle.Extends(i, n, root, root, path),
		}
	}
	var list [][]string
	var first []result
	for n := range 14 {
		for _, l := range lists(n) {
			for i := -1; i <= n+1; i++ {
				list = append(list, l)
				first = append(first, all(l, i))
			}
		}
	}
	var workers sync.WaitGroup
	for range 4 {
		workers.Go(func() {
			i := -1
			for k, l := range list {
				if all(slices.Clone(l), i) != first[k] {
					t.Errorf("%d of %d: another result", i, len(l))
				}
				if i++; i > len(l)+1 {
					i = -1
				}
			}
		})
	}
	workers.Wait()
}

// P8.5: the paths of all leaves and the links of all numbers, in lists of digests, are accepted.
func TestProofs(t *testing.T) {
	for _, n := range sizes() {
		for _, l := range [][]string{digests(n), slices.Repeat([]string{leaf("")}, n)} {
			root := merkle.Root(l)
			for m := 0; m <= n; m += 1 + n/60 {
				link, ok := merkle.Link(l, m)
				if !ok {
					t.Fatalf("no link of %d in %d leaves", m, n)
				}
				extends(t, m, n, merkle.Root(l[:m]), root, link, true)
				if m == n {
					continue
				}
				path, ok := merkle.Path(l, m)
				if !ok {
					t.Fatalf("no path of %d in %d leaves", m, n)
				}
				includes(t, l[m], m, n, root, path, true)
			}
		}
	}
}

// choices calls f with all lists of n elements of the pool.
func choices(pool []string, n int, f func(list []string)) {
	list := make([]string, n)
	var choose func(i int)
	choose = func(i int) {
		if i == n {
			f(list)
			return
		}
		for _, list[i] = range pool {
			choose(i + 1)
		}
	}
	choose(0)
}

// nodes returns all nodes of the tree of leaves, and two other digests.
func nodes(leaves []string) []string {
	list := []string{sha(""), sha("?")}
	for _, level := range levels(leaves) {
		list = append(list, level...)
	}
	slices.Sort(list)
	return slices.Compact(list)
}

// P8.6: of all leaves and paths that consist of the nodes of a tree, only a leaf with its own path is accepted.
func TestOnlyPath(t *testing.T) {
	for n := 1; n <= 5; n++ {
		l := digests(n)
		root, pool := rootOf(l), nodes(l)
		for i := range n {
			right := append([]string{l[i]}, pathOf(l, i)...)
			for length := range 4 {
				choices(pool, 1+length, func(list []string) {
					includes(t, list[0], i, n, root, list[1:], slices.Equal(list, right))
				})
			}
		}
	}
}

// P8.6: of all old roots and links that consist of the nodes of a tree, only the root of the first leaves with their own link is accepted.
func TestOnlyLink(t *testing.T) {
	for n := 1; n <= 4; n++ {
		l := digests(n)
		now := rootOf(l)
		for m := 1; m <= n; m++ {
			pool := append(nodes(l), rootOf(l[:m]), rootOf(with(l[:m], m-1, leaf("?"))), rootOf(l[n-m:]))
			slices.Sort(pool)
			pool = slices.Compact(pool)
			right := append([]string{rootOf(l[:m])}, linkOf(l, m)...)
			for length := range 4 {
				choices(pool, 1+length, func(list []string) {
					extends(t, m, n, list[0], now, list[1:], slices.Equal(list, right))
				})
			}
		}
	}
}

// P8.6: a link is accepted for no root of other leaves than the first ones, whichever of them differs.
func TestOnlyFirst(t *testing.T) {
	for n := 1; n <= 20; n++ {
		l := digests(n)
		now := merkle.Root(l)
		for m := 1; m <= n; m++ {
			link, _ := merkle.Link(l, m)
			for i := range m {
				other := with(l, i, leaf("?"))
				extends(t, m, n, merkle.Root(other[:m]), now, link, false)
				forged, _ := merkle.Link(other, m)
				extends(t, m, n, merkle.Root(other[:m]), now, forged, false)
				extends(t, m, n, merkle.Root(l[:m]), merkle.Root(other), link, false)
				extends(t, m, n, merkle.Root(without(other[:m], i)), now, link, false)
			}
			for i := range m - 1 {
				swapped := with(with(l, i, l[i+1]), i+1, l[i])
				extends(t, m, n, merkle.Root(swapped[:m]), now, link, false)
			}
		}
	}
}
