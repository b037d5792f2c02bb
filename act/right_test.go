package act_test

import (
	"math"
	"math/rand"
	"reflect"
	"slices"
	"strings"
	"testing"

	"agora/act"
	"agora/api"
	"agora/ident"
)

// The limits that the tests write as numbers are those of the chapter.
func TestLimits(t *testing.T) {
	if p != 1<<61-1 || n != 1<<61-2 || api.MaxTime != maxTime || api.MaxText != 500 || api.MaxName != 24 || api.MaxTo != 64 || api.MaxServers != 20 || api.AcKinds != kinds {
		t.Error("other limits")
	}
	for _, count := range []int{0, 1, 64} {
		if !ident.Ids(ids(count)) {
			t.Error(count, "ids")
		}
	}
}

// P12.1: valid activities of each kind, with values at their bounds and any signature within the bounds.
func TestRight(t *testing.T) {
	for i, a := range valid() {
		rightIs(t, a, true, "valid", i)
	}
	rightIs(t, api.Act{}, false, "the zero activity")
}

// P12.1: the examples of the chapter.
func TestExamples(t *testing.T) {
	begin := api.Act{Author: alice, Text: "alice", N: 37}
	post := api.Act{Author: alice, Seq: 1, Prev: prev, Kind: api.AcPost, Text: "hello"}
	label := api.Act{Author: alice, Seq: 1, Prev: prev, Kind: api.AcLabel, Text: "spam", Object: digest, Target: bob}
	rightIs(t, begin, true)
	rightIs(t, post, true)
	rightIs(t, label, false)
	for name, a := range map[string]api.Act{
		"M 20":           {Author: alice, Text: "alice", N: 37, M: 20},
		"an Object":      {Author: alice, Text: "alice", N: 37, Object: digest},
		"Seq 1":          {Author: alice, Seq: 1, Prev: prev, Text: "alice", N: 37},
		"Scope ScCircle": {Author: alice, Seq: 1, Prev: prev, Kind: api.AcPost, Text: "hello", Scope: api.ScCircle},
	} {
		rightIs(t, a, false, name)
	}
}

// bounds checks for each kind that a field may have the good values and must not have the bad ones.
func bounds[V any](t *testing.T, name string, field func(a *api.Act) *V, good, bad []V) {
	t.Helper()
	for _, a := range onePerKind() {
		for _, v := range good {
			*field(&a) = v
			rightIs(t, a, true, name, v)
		}
		for _, v := range bad {
			*field(&a) = v
			rightIs(t, a, false, name, v)
		}
	}
}

// P12.1: Author, Time, E and S of each kind, at their bounds, just outside, and at the ends of the integers.
func TestCommonFields(t *testing.T) {
	bounds(t, "Author", func(a *api.Act) *string { return &a.Author },
		[]string{alice, bob, carol, "0123456789abcdef"},
		[]string{"", alice[1:], alice + "0", "00000000000000A1", "0123456789abcdeF", "alice", "000000000000000g", alice + "\x00", strings.Repeat("\u00e4", 8)})
	bounds(t, "Time", func(a *api.Act) *int { return &a.Time },
		[]int{0, 1, 1<<40 - 1, 1 << 40}, []int{-1, 1<<40 + 1, 1 << 41, -1 << 40, math.MinInt, math.MaxInt})
	good, bad := []int{0, 1, 1<<61 - 4, 1<<61 - 3}, []int{-1, 1<<61 - 2, 1<<61 - 1, 1 << 61, math.MinInt, math.MaxInt}
	bounds(t, "E", func(a *api.Act) *int { return &a.Sig.E }, good, bad)
	bounds(t, "S", func(a *api.Act) *int { return &a.Sig.S }, good, bad)
}

// P12.1: an AcBegin has Seq 0 and no Prev; all others have a Seq from 1 to 2^30 and a digest as Prev.
func TestPlace(t *testing.T) {
	for kind, a := range onePerKind() {
		for _, a.Seq = range []int{math.MinInt, -1 << 30, -1, 0, 1, 2, 1<<30 - 1, 1 << 30, 1<<30 + 1, 1 << 32, 1<<32 + 1, math.MaxInt} {
			for _, size := range []int{0, 1, 31, 32, 33, 64, 288} {
				a.Prev = strings.Repeat("\x00", size)
				want := a.Seq == 0 && size == 0
				if kind != api.AcBegin {
					want = a.Seq >= 1 && a.Seq <= 1<<30 && size == 32
				}
				rightIs(t, a, want, "Seq", a.Seq, "Prev of", size)
			}
		}
	}
}

// P12.1: no activity has a Kind below 0 or from AcKinds on, and a kind is not taken for another one.
func TestKind(t *testing.T) {
	for _, a := range valid() {
		kind := a.Kind
		for _, a.Kind = range []int{-1, -2, -kinds, kinds, kinds + 1, 1 << 8, 1<<8 + kind, 1<<32 + kind, math.MinInt, math.MinInt + kind, math.MaxInt, math.MaxInt - kind} {
			rightIs(t, a, false, "once of kind", kind)
		}
		for a.Kind = range kinds {
			rightIs(t, a, isRight(a), "once of kind", kind)
		}
	}
}

// sets are values, for each field, which are not zero; some of them are right for some kinds.
var sets = []change{
	{"Object", func(a *api.Act) { a.Object = digest }}, {"Object", func(a *api.Act) { a.Object = "x" }}, {"Object", func(a *api.Act) { a.Object = "\x00" }},
	{"Target", func(a *api.Act) { a.Target = carol }}, {"Target", func(a *api.Act) { a.Target = "x" }},
	{"Scope", func(a *api.Act) { a.Scope = 1 }}, {"Scope", func(a *api.Act) { a.Scope = 2 }}, {"Scope", func(a *api.Act) { a.Scope = 3 }}, {"Scope", func(a *api.Act) { a.Scope = -1 }},
	{"Group", func(a *api.Act) { a.Group = "friends" }}, {"Group", func(a *api.Act) { a.Group = " " }},
	{"To", func(a *api.Act) { a.To = []string{bob} }}, {"To", func(a *api.Act) { a.To = []string{""} }},
	{"Text", func(a *api.Act) { a.Text = "alice" }}, {"Text", func(a *api.Act) { a.Text = "\x00" }},
	{"Body", func(a *api.Act) { a.Body = box }}, {"Body", func(a *api.Act) { a.Body.Nonce = digest }}, {"Body", func(a *api.Act) { a.Body.Data = "x" }}, {"Body", func(a *api.Act) { a.Body.Tag = tag }},
	{"Epoch", func(a *api.Act) { a.Epoch = 1 }}, {"Epoch", func(a *api.Act) { a.Epoch = -1 }},
	{"Wraps", func(a *api.Act) { a.Wraps = []api.Wrap{wrap1} }}, {"Wraps", func(a *api.Act) { a.Wraps = []api.Wrap{{}} }},
	{"N", func(a *api.Act) { a.N = 1 }}, {"N", func(a *api.Act) { a.N = 37 }}, {"N", func(a *api.Act) { a.N = -1 }},
	{"M", func(a *api.Act) { a.M = 1 }}, {"M", func(a *api.Act) { a.M = 37 }}, {"M", func(a *api.Act) { a.M = -1 }},
}

// P12.1: a field that the kind does not use is zero.
func TestUnusedFields(t *testing.T) {
	for i, a := range valid() {
		for _, c := range sets {
			if !slices.Contains(strings.Fields(uses[a.Kind]), c.name) {
				rightIs(t, with(a, c), false, "valid", i, c.name)
			}
		}
	}
}

// P12.1: the lists that a kind does not use are empty, nil or not.
func TestEmptyLists(t *testing.T) {
	for i, a := range valid() {
		for _, to := range [][]string{nil, {}, ids(3)[:0]} {
			for _, list := range [][]api.Wrap{nil, {}, wraps(3)[:0]} {
				b := a
				if len(a.To) == 0 {
					b.To = to
				}
				if len(a.Wraps) == 0 {
					b.Wraps = list
				}
				rightIs(t, b, true, "valid", i)
			}
		}
	}
}

// P12.1: an Object is a digest, where the kind uses one.
func TestObject(t *testing.T) {
	for _, a := range onePerKind() {
		if a.Object == "" {
			continue
		}
		for _, size := range []int{0, 1, 16, 31, 32, 33, 64, 288} {
			for _, c := range []string{"\x00", "f", "\xff"} {
				a.Object = strings.Repeat(c, size)
				rightIs(t, a, size == 32, "Object of", size)
			}
		}
	}
}

// P12.1: a Target is an id, where the kind uses one.
func TestTarget(t *testing.T) {
	for _, a := range onePerKind() {
		if a.Target == "" {
			continue
		}
		for _, a.Target = range []string{alice, bob, carol} {
			rightIs(t, a, true)
		}
		for _, a.Target = range []string{"", bob[1:], bob + "0", "00000000000000B2", "bob", digest, "000000000000000g"} {
			rightIs(t, a, false, a.Target)
		}
	}
}

// texts returns texts, each with whether it is a name.
func texts() map[string]bool {
	long := strings.Repeat("t", 501)
	return map[string]bool{
		"": false, "a": true, long[:24]: true, long[:25]: false, "spam_1": true, "1a": false, "_a": false, "Spam": false, "a b": false,
		"\u00e4": false, "\xff": false, "\x00": false, long[:499]: false, long[:500]: false, strings.Repeat("\u00e4", 250): false, long: false,
	}
}

// P12.1: a Text is a name or a short text, as the kind says.
func TestText(t *testing.T) {
	for _, kind := range []int{api.AcBegin, api.AcLabel, api.AcReport, api.AcAppeal, api.AcList, api.AcPost, api.AcReply, api.AcQuote, api.AcEdit} {
		for text, isName := range texts() {
			a := onePerKind()[kind]
			a.Scope, a.Epoch, a.Body, a.To, a.Text = 0, 0, api.Box{}, nil, text
			want := len(text) <= 500
			if kind == api.AcBegin || kind == api.AcLabel {
				want = isName
			}
			rightIs(t, a, want, "Text", text)
		}
	}
}

// P12.1: the Group of an AcCircle is a name, and its To a list of ids, which may be empty.
func TestCircle(t *testing.T) {
	for group, isName := range texts() {
		for i, to := range lists() {
			a := placed(api.AcCircle, api.Act{Group: group, To: to})
			rightIs(t, a, isName && rightLists[i], "Group", group, "To", i)
		}
	}
}

// rightLists tells which of the lists that lists returns are lists of ids.
var rightLists = []bool{true, true, true, true, true, true, true, false, false, false, false, false, false, false, false, false, false, true, false}

// P12.1: what lists are lists of ids, in all the fields that are one.
func TestLists(t *testing.T) {
	for i, to := range lists() {
		for _, kind := range []int{api.AcPost, api.AcReply, api.AcQuote, api.AcEdit} {
			a := onePerKind()[kind]
			a.To, a.Scope, a.Body, a.Epoch, a.Text = to, api.ScPublic, api.Box{}, 0, "x"
			rightIs(t, a, rightLists[i], "public, To", i)
			a.Scope, a.Body, a.Text = api.ScMention, box, ""
			rightIs(t, a, rightLists[i], "mention, To", i)
			a.Scope = api.ScFollowers
			rightIs(t, a, len(to) == 0, "followers, To", i)
			a.Scope, a.Group = api.ScCircle, "friends"
			rightIs(t, a, len(to) == 0, "circle, To", i)
		}
		grant := placed(api.AcGrant, api.Act{Scope: api.ScFollowers, To: to, Wraps: wraps(len(to))})
		setup := placed(api.AcSetup, api.Act{To: to, Wraps: wraps(len(to)), N: 1, M: 37})
		rightIs(t, grant, rightLists[i], "grant, To", i)
		rightIs(t, setup, rightLists[i] && len(to) > 0, "setup, To", i)
	}
}

// P12.1: N and M, at and just outside their bounds.
func TestNumbers(t *testing.T) {
	for _, v := range numbers {
		public, server := v >= 1 && v <= 1<<61-2, v >= 0 && v <= 19
		for _, kind := range []int{api.AcBegin, api.AcMove} {
			a := onePerKind()[kind]
			a.N = v
			rightIs(t, a, public, "N", v)
			a.N, a.M = 37, v
			rightIs(t, a, server, "M", v)
		}
		for _, count := range []int{1, 2, 3, 63, 64} {
			a := placed(api.AcSetup, api.Act{To: ids(count), Wraps: wraps(count), N: v, M: 37})
			rightIs(t, a, v >= 1 && v <= count, count, "friends, N", v)
			a.N, a.M = count, v
			rightIs(t, a, public, count, "friends, M", v)
		}
		judge, list := onePerKind()[api.AcJudge], onePerKind()[api.AcList]
		judge.N, list.N = v, v
		rightIs(t, judge, v == 0 || v == 1, "N", v)
		rightIs(t, list, v >= 0 && v <= 1<<40, "N", v)
	}
}

// P12.1: an AcSetup has friends.
func TestSetupWithoutFriends(t *testing.T) {
	for _, to := range [][]string{nil, {}} {
		for _, v := range []int{-1, 0, 1} {
			rightIs(t, placed(api.AcSetup, api.Act{To: to, N: v, M: 37}), false, "N", v)
		}
	}
}

// wrapped returns an activity of a kind that uses wraps, with as many ids and with the wraps of a list.
func wrapped(kind, count int, list []api.Wrap) api.Act {
	a := api.Act{To: ids(count), Wraps: list, N: 1, M: 37}
	if kind == api.AcGrant {
		a.Scope, a.N, a.M = api.ScFollowers, 0, 0
	}
	return placed(kind, a)
}

// P12.1: there are as many wraps as ids.
func TestWrapCount(t *testing.T) {
	for _, kind := range []int{api.AcGrant, api.AcSetup} {
		for _, count := range []int{0, 1, 2, 3, 63, 64, 65} {
			for _, d := range []int{-2, -1, 0, 1, 2} {
				if size := count + d; size >= 0 {
					rightIs(t, wrapped(kind, count, wraps(size)), d == 0 && count <= 64 && (count > 0 || kind == api.AcGrant), count, size)
				}
			}
			rightIs(t, wrapped(kind, count, nil), count == 0 && kind == api.AcGrant, count, "no wraps")
		}
	}
}

// P12.1: each wrap is valid, at the beginning, in the middle and at the end.
func TestWraps(t *testing.T) {
	type row struct {
		w     api.Wrap
		valid bool
	}
	rows := []row{{api.Wrap{}, false}, {api.Wrap{To: 1, Eph: 1}, false}, {api.Wrap{Box: box}, false}, {wrap1, true}, {wrap2, true}}
	for _, v := range []int{math.MinInt, -37, -1, 0, 1, 2, p - 2, p - 1, p, p + 1, math.MaxInt} {
		public := v >= 1 && v <= 1<<61-2
		rows = append(rows, row{api.Wrap{To: v, Eph: 37, Box: box}, public}, row{api.Wrap{To: 37, Eph: v, Box: box}, public}, row{api.Wrap{To: v, Eph: v, Box: box}, public})
	}
	for _, nonce := range []int{0, 31, 32, 33} {
		for _, data := range []int{0, 1, 500, 501} {
			for _, tag := range []int{0, 15, 16, 17} {
				rows = append(rows, row{api.Wrap{To: 37, Eph: 37, Box: boxWith(nonce, data, tag)}, nonce == 32 && data <= 500 && tag == 16})
			}
		}
	}
	for _, r := range rows {
		for _, kind := range []int{api.AcGrant, api.AcSetup} {
			for _, count := range []int{1, 2, 5, 64} {
				for _, at := range []int{0, count / 2, count - 1} {
					list := wraps(count)
					list[at] = r.w
					rightIs(t, wrapped(kind, count, list), r.valid, r.w, at, "of", count)
				}
			}
		}
	}
}

// P12.1: a grant names an epoch of followers, of a circle, or of those who are mentioned.
func TestGrant(t *testing.T) {
	for _, scope := range []int{math.MinInt, -1, 0, 1, 2, 3, 4, math.MaxInt} {
		for _, group := range []string{"", "g", strings.Repeat("g", 24), strings.Repeat("g", 25), "G", "1"} {
			for _, epoch := range []int{math.MinInt, -1, 0, 1, 1 << 30, 1<<30 + 1, math.MaxInt} {
				a := wrapped(api.AcGrant, 2, wraps(2))
				a.Scope, a.Group, a.Epoch = scope, group, epoch
				named := scope == 2 && len(group) >= 1 && len(group) <= 24 && group[0] == 'g'
				want := (scope == 1 && group == "" || scope == 3 && group == "" || named) && epoch >= 0 && epoch <= 1<<30
				rightIs(t, a, want, scope, group, epoch)
			}
		}
	}
}

// P12.1: a label is for either a post or an actor.
func TestLabel(t *testing.T) {
	for object, isObject := range map[string]bool{"": false, digest: true, digest[1:]: false, digest + "x": false, alice: false} {
		for target, isTarget := range map[string]bool{"": false, bob: true, bob[1:]: false, bob + "0": false, "bob": false, digest: false} {
			a := placed(api.AcLabel, api.Act{Text: "spam", Object: object, Target: target})
			rightIs(t, a, isObject && target == "" || isTarget && object == "", object, target)
		}
	}
}

// P12.1: audiences that are valid, and such that are not, for all the kinds that have one.
func TestAudience(t *testing.T) {
	long := strings.Repeat("t", 501)
	for i, row := range []struct {
		a     api.Act
		valid bool
	}{
		{api.Act{}, true}, {api.Act{Text: "x"}, true}, {api.Act{Text: long[:500]}, true}, {api.Act{Text: long}, false},
		{api.Act{To: []string{bob}}, true}, {api.Act{To: ids(64), Text: "x"}, true}, {api.Act{To: ids(65)}, false}, {api.Act{To: []string{bob, alice}}, false},
		{api.Act{Group: "g"}, false}, {api.Act{Epoch: 1}, false}, {api.Act{Body: box}, false}, {api.Act{Text: "x", Body: box}, false}, {api.Act{Body: api.Box{Data: "x"}}, false},
		{api.Act{Body: api.Box{Nonce: "x"}}, false}, {api.Act{Body: api.Box{Tag: "x"}}, false}, {api.Act{Epoch: -1}, false},
		{api.Act{Scope: 1, Body: box}, true}, {api.Act{Scope: 1, Body: box, Epoch: 1 << 30}, true}, {api.Act{Scope: 1, Body: box, Epoch: 1<<30 + 1}, false}, {api.Act{Scope: 1, Body: box, Epoch: -1}, false},
		{api.Act{Scope: 1, Body: box, Group: "g"}, false}, {api.Act{Scope: 1, Body: box, To: []string{bob}}, false}, {api.Act{Scope: 1, Body: box, Text: "x"}, false}, {api.Act{Scope: 1}, false}, {api.Act{Scope: 1, Text: "x"}, false},
		{api.Act{Scope: 2, Body: box, Group: "g"}, true}, {api.Act{Scope: 2, Body: box}, false}, {api.Act{Scope: 2, Body: box, Group: long[:24]}, true}, {api.Act{Scope: 2, Body: box, Group: long[:25]}, false},
		{api.Act{Scope: 2, Body: box, Group: "G"}, false}, {api.Act{Scope: 2, Body: box, Group: "g", To: []string{bob}}, false}, {api.Act{Scope: 2, Body: box, Group: "g", Text: "x"}, false}, {api.Act{Scope: 2, Group: "g", Epoch: 1}, false},
		{api.Act{Scope: 3, Body: box, To: []string{bob}}, true}, {api.Act{Scope: 3, Body: box}, true}, {api.Act{Scope: 3, Body: box, To: ids(64)}, true}, {api.Act{Scope: 3, Body: box, To: ids(65)}, false},
		{api.Act{Scope: 3, Body: box, To: []string{bob, bob}}, false}, {api.Act{Scope: 3, Body: box, Group: "g"}, false}, {api.Act{Scope: 3, Body: box, Text: "x"}, false}, {api.Act{Scope: 3, To: []string{bob}}, false},
		{api.Act{Scope: 3, Body: boxWith(31, 1, 16)}, false}, {api.Act{Scope: 3, Body: boxWith(33, 1, 16)}, false}, {api.Act{Scope: 3, Body: boxWith(32, 1, 15)}, false}, {api.Act{Scope: 3, Body: boxWith(32, 1, 17)}, false},
		{api.Act{Scope: 3, Body: boxWith(32, 500, 16)}, true}, {api.Act{Scope: 3, Body: boxWith(32, 501, 16)}, false}, {api.Act{Scope: 3, Body: boxWith(32, 0, 16)}, true},
		{api.Act{Scope: -1, Body: box}, false}, {api.Act{Scope: 4, Body: box}, false}, {api.Act{Scope: -1}, false}, {api.Act{Scope: 4}, false}, {api.Act{Scope: 4, Text: "x"}, false},
	} {
		for _, kind := range []int{api.AcPost, api.AcReply, api.AcQuote, api.AcEdit} {
			a := placed(kind, row.a)
			if kind != api.AcPost {
				rightIs(t, a, false, "audience", i, "without Object")
				a.Object = digest
			}
			rightIs(t, a, row.valid, "audience", i)
		}
	}
}

// P12.1: all combinations of the parts of an audience, against the definition.
func TestAudiences(t *testing.T) {
	bodies := []api.Box{{}, box, boxWith(32, 0, 16), boxWith(31, 4, 16), boxWith(33, 4, 16), boxWith(32, 4, 15), boxWith(32, 4, 17), boxWith(32, 500, 16), boxWith(32, 501, 16), boxWith(0, 4, 0)}
	lists := [][]string{nil, {}, {bob}, ids(64), ids(65), {bob, alice}, {bob, bob}, {"bob"}}
	long := strings.Repeat("t", 501)
	right := 0
	for _, kind := range []int{api.AcPost, api.AcQuote, api.AcEdit} {
		a := onePerKind()[kind]
		for _, a.Scope = range []int{-1, 0, 1, 2, 3, 4} {
			for _, a.Group = range []string{"", "g", long[:24], long[:25], "1"} {
				for _, a.Epoch = range []int{-1, 0, 1, most, most + 1} {
					for _, a.To = range lists {
						for _, a.Text = range []string{"", "x", long[:500], long} {
							for _, a.Body = range bodies {
								want := isRight(a)
								if act.Right(a) != want {
									t.Fatalf("not %v: %+v", want, a)
								}
								if want {
									right++
								}
							}
						}
					}
				}
			}
		}
	}
	// Of each kind: 3 texts and 4 lists in public; 3 epochs and 3 bodies for followers and, with 2 lists, 2 names for a circle and no name for followers, and 4 lists for those who are mentioned.
	if want := 3 * (3*4 + 3*3*2 + 3*3*2*2 + 3*3*4); right != want {
		t.Errorf("%d are valid, not %d", right, want)
	}
}

// P12.1 and P12.2: each field of valid activities with each of many values. What is not valid has no core, no encoding and no signature.
func TestChanges(t *testing.T) {
	for i, a := range valid() {
		for _, c := range changes() {
			b := with(a, c)
			right := isRight(b)
			rightIs(t, b, right, "valid", i, c.name)
			core, all := act.Core(b), act.Bytes(b)
			if !right && (core != "" || all != "") {
				t.Errorf("valid %d, %s: core of %d bytes, %d bytes", i, c.name, len(core), len(all))
			}
			if right && (core != corePieces(b).join() || all != allPieces(b).join()) {
				t.Errorf("valid %d, %s: core %x, bytes %x", i, c.name, core, all)
			}
		}
	}
}

// P12.1: two changes at once, of which one may make good what the other one spoils.
func TestPairsOfChanges(t *testing.T) {
	r := rand.New(rand.NewSource(12))
	list, base := changes(), valid()
	right := 0
	for range 300000 {
		a := base[r.Intn(len(base))]
		c, d := list[r.Intn(len(list))], list[r.Intn(len(list))]
		c.apply(&a)
		d.apply(&a)
		want := isRight(a)
		if act.Right(a) != want {
			t.Fatalf("kind %d, %s, %s: not %v", a.Kind, c.name, d.name, want)
		}
		if want {
			right++
		}
	}
	if right < 2000 {
		t.Error("only", right, "are valid")
	}
}

// P12.1: the fields of valid activities with each other Kind, and with the Seq and the Prev that it requires.
func TestOtherKinds(t *testing.T) {
	for i, a := range valid() {
		for kind := range kinds {
			b := placed(kind, a)
			if kind == api.AcBegin {
				b.Seq, b.Prev = 0, ""
			}
			rightIs(t, b, isRight(b), "valid", i)
		}
	}
	// An Object alone, a Target alone, and a Target with a Text, are enough for some kinds.
	like, follow, label := onePerKind()[api.AcLike], onePerKind()[api.AcFollow], onePerKind()[api.AcLabel]
	for kind := range kinds {
		like.Kind, follow.Kind, label.Kind = kind, kind, kind
		rightIs(t, like, slices.Contains([]int{api.AcReply, api.AcQuote, api.AcBoost, api.AcLike, api.AcUndo, api.AcReport, api.AcDelete, api.AcEdit, api.AcObject, api.AcAppeal, api.AcJudge}, kind))
		rightIs(t, follow, slices.Contains([]int{api.AcFollow, api.AcAccept, api.AcRemove, api.AcBlock, api.AcMute, api.AcList}, kind))
		rightIs(t, label, kind == api.AcLabel || kind == api.AcList)
	}
}

// P12.1: Posting of each kind, and of integers that are none.
func TestPosting(t *testing.T) {
	for _, kind := range append(upTo(kinds), math.MinInt, -3, -2, -1, kinds, kinds+1, 256, 257, 258, 259, 1<<32+1, 1<<32+2, 1<<32+3, math.MaxInt) {
		if got, want := act.Posting(kind), kind == 1 || kind == 2 || kind == 3; got != want {
			t.Errorf("Posting(%d) = %v", kind, got)
		}
	}
}

// P12.5: Right changes nothing in an activity, and reads nothing beyond the length of a list.
func TestRightLeavesArguments(t *testing.T) {
	for i, a := range valid() {
		before := clone(a)
		a.To = append(slices.Clone(a.To), "beyond")[:len(a.To)]
		a.Wraps = append(slices.Clone(a.Wraps), api.Wrap{To: -1})[:len(a.Wraps)]
		rightIs(t, a, true, "valid", i)
		if !equal(a, before) || a.To[:len(a.To)+1][len(a.To)] != "beyond" || !reflect.DeepEqual(a.Wraps[:len(a.Wraps)+1][len(a.Wraps)], api.Wrap{To: -1}) {
			t.Errorf("valid %d is changed", i)
		}
	}
}
