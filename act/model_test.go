package act_test

import (
	"encoding/binary"
	"math"
	"reflect"
	"slices"
	"strconv"
	"strings"
	"testing"

	"agora/act"
	"agora/api"
	"agora/group"
	"agora/ident"
)

const (
	p       = group.P
	n       = group.N
	most    = 1 << 30
	maxTime = 1 << 40
	kinds   = 24
	alice   = "00000000000000a1"
	bob     = "00000000000000b2"
	carol   = "ffffffffffffffff"
	tag     = "0123456789abcdef"
)

// names are the fields of which each kind uses some, and uses says which ones, as the chapter's table does.
var names = []string{"Object", "Target", "Scope", "Group", "To", "Text", "Body", "Epoch", "Wraps", "N", "M"}

const wholeAudience = "Scope Group Epoch To Text Body"

var uses = [kinds]string{
	api.AcBegin: "Text N M", api.AcPost: wholeAudience, api.AcReply: "Object " + wholeAudience, api.AcQuote: "Object " + wholeAudience,
	api.AcBoost: "Object", api.AcLike: "Object", api.AcUndo: "Object", api.AcFollow: "Target", api.AcAccept: "Target",
	api.AcRemove: "Target", api.AcBlock: "Target", api.AcMute: "Target", api.AcReport: "Object Text", api.AcDelete: "Object",
	api.AcEdit: "Object " + wholeAudience, api.AcCircle: "Group To", api.AcGrant: "Scope Group Epoch To Wraps", api.AcLabel: "Text Object Target",
	api.AcMove: "N M", api.AcSetup: "To Wraps N M", api.AcObject: "Object", api.AcAppeal: "Object Text", api.AcJudge: "Object N", api.AcList: "Target Text N",
}

// bytesFrom returns a string of consecutive bytes.
func bytesFrom(first byte, count int) string {
	out := make([]byte, count)
	for i := range out {
		out[i] = first + byte(i)
	}
	return string(out)
}

var (
	prev   = bytesFrom(0, 32)
	digest = bytesFrom(100, 32)
	box    = api.Box{Nonce: digest, Data: "data", Tag: tag}
	wrap1  = api.Wrap{To: 37, Eph: p - 1, Box: box}
	wrap2  = api.Wrap{To: p - 1, Eph: 1, Box: api.Box{Nonce: prev, Tag: tag}}
)

// ids returns as many ids, in ascending order.
func ids(count int) []string {
	var list []string
	for i := range count {
		s := strconv.FormatInt(int64(i*i*977+5), 16)
		list = append(list, strings.Repeat("0", 16-len(s))+s)
	}
	return list
}

// wraps returns as many different valid wraps.
func wraps(count int) []api.Wrap {
	var list []api.Wrap
	for i := range count {
		list = append(list, api.Wrap{To: 1 + i*i, Eph: p - 1 - i, Box: api.Box{Nonce: bytesFrom(byte(i), 32), Data: bytesFrom(byte(i), i), Tag: tag}})
	}
	return list
}

// boxWith returns a box whose parts have these lengths.
func boxWith(nonce, data, tag int) api.Box {
	return api.Box{Nonce: bytesFrom(1, nonce), Data: bytesFrom(2, data), Tag: bytesFrom(3, tag)}
}

// onePerKind returns a valid activity of each kind, at the index of its kind.
func onePerKind() []api.Act {
	list := []api.Act{
		api.AcBegin:  {Text: "alice", N: 37, M: 19},
		api.AcPost:   {Text: "hello", To: []string{alice, bob}},
		api.AcReply:  {Object: digest, Scope: api.ScFollowers, Body: box, Epoch: most},
		api.AcQuote:  {Object: digest, Scope: api.ScMention, To: []string{bob}, Body: box, Epoch: 1},
		api.AcBoost:  {Object: digest},
		api.AcLike:   {Object: digest},
		api.AcUndo:   {Object: digest},
		api.AcFollow: {Target: bob},
		api.AcAccept: {Target: bob},
		api.AcRemove: {Target: bob},
		api.AcBlock:  {Target: bob},
		api.AcMute:   {Target: bob},
		api.AcReport: {Object: digest, Text: "rude"},
		api.AcDelete: {Object: digest},
		api.AcEdit:   {Object: digest, Text: strings.Repeat("x", 500)},
		api.AcCircle: {Group: "friends", To: []string{alice, bob, carol}},
		api.AcGrant:  {Scope: api.ScCircle, Group: "friends", Epoch: 300, To: []string{alice, bob}, Wraps: []api.Wrap{wrap1, wrap2}},
		api.AcLabel:  {Target: bob, Text: "spam"},
		api.AcMove:   {N: p - 1},
		api.AcSetup:  {To: []string{alice, bob}, Wraps: []api.Wrap{wrap2, wrap1}, N: 2, M: p - 1},
		api.AcObject: {Object: digest},
		api.AcAppeal: {Object: digest},
		api.AcJudge:  {Object: digest, N: 1},
		api.AcList:   {Target: carol, Text: "bad", N: maxTime},
	}
	for kind := range list {
		list[kind] = placed(kind, list[kind])
	}
	return list
}

// placed returns a with a Kind and with the fields that all kinds use, each of them with a value that is right.
func placed(kind int, a api.Act) api.Act {
	a.Kind, a.Author, a.Time = kind, alice, 1000*kind
	switch {
	case kind == api.AcBegin:
		a.Time = maxTime
	case kind < 20:
		a.Seq, a.Prev = kind, prev
	default:
		a.Seq, a.Prev = most, prev
	}
	return a
}

// audiences returns valid audiences of all scopes.
func audiences() []api.Act {
	return []api.Act{
		{}, {Text: "x"}, {Text: strings.Repeat("\xff", 500), To: ids(64)}, {To: ids(1)},
		{Scope: api.ScFollowers, Body: boxWith(32, 0, 16)}, {Scope: api.ScFollowers, Body: boxWith(32, 500, 16), Epoch: most, To: []string{}},
		{Scope: api.ScCircle, Group: "a", Body: box}, {Scope: api.ScCircle, Group: strings.Repeat("z", 24), Body: box, Epoch: 7},
		{Scope: api.ScMention, Body: box, To: ids(64), Epoch: 1}, {Scope: api.ScMention, Body: box},
	}
}

// valid returns valid activities of all kinds, with values at the bounds and with signatures of all sorts.
func valid() []api.Act {
	list := onePerKind()
	add := func(kind int, variants ...api.Act) {
		for _, a := range variants {
			list = append(list, placed(kind, a))
		}
	}
	add(api.AcBegin, api.Act{Text: "a", N: 1}, api.Act{Text: strings.Repeat("a", 24), N: p - 1, M: 19})
	add(api.AcPost, audiences()...)
	for _, kind := range []int{api.AcReply, api.AcQuote, api.AcEdit} {
		for _, a := range audiences() {
			a.Object = digest
			add(kind, a)
		}
	}
	add(api.AcCircle, api.Act{Group: "a"}, api.Act{Group: strings.Repeat("b", 24), To: ids(64)}, api.Act{Group: "c", To: []string{}})
	add(api.AcGrant, api.Act{Scope: api.ScFollowers}, api.Act{Scope: api.ScMention, Epoch: most, To: ids(64), Wraps: wraps(64)}, api.Act{Scope: api.ScCircle, Group: "g", To: ids(1), Wraps: wraps(1)})
	add(api.AcLabel, api.Act{Object: digest, Text: "x"}, api.Act{Object: prev, Text: strings.Repeat("y", 24)})
	add(api.AcMove, api.Act{N: 1, M: 19})
	add(api.AcSetup, api.Act{To: ids(1), Wraps: wraps(1), N: 1, M: 1}, api.Act{To: ids(64), Wraps: wraps(64), N: 64, M: 37}, api.Act{To: ids(64), Wraps: wraps(64), N: 1, M: p - 1})
	for _, kind := range []int{api.AcReport, api.AcAppeal} {
		add(kind, api.Act{Object: digest}, api.Act{Object: digest, Text: strings.Repeat("\x00", 500)})
	}
	add(api.AcJudge, api.Act{Object: digest})
	add(api.AcList, api.Act{Target: bob}, api.Act{Target: bob, Text: strings.Repeat("r", 500), N: 1})
	for i := range list {
		list[i].Sig = []api.Sig{{}, {E: n - 1, S: n - 1}, {E: 5}, {S: 1 << 40}}[i%4]
	}
	return list
}

// change is a change of one field.
type change struct {
	name  string
	apply func(a *api.Act)
}

// settings returns the changes that give a field each of the values.
func settings[V any](name string, field func(a *api.Act) *V, values ...V) []change {
	var list []change
	for i, v := range values {
		list = append(list, change{name + " " + strconv.Itoa(i), func(a *api.Act) { *field(a) = v }})
	}
	return list
}

// lists returns lists that are accepted and some that are not.
func lists() [][]string {
	return [][]string{
		nil, {}, ids(1), {bob}, {alice, bob}, ids(3), ids(64), ids(65), {bob, alice}, {bob, bob}, {alice, bob, bob}, {""}, {"Alice"}, {strings.ToUpper(carol)},
		{"a", bob}, {alice, "b", carol}, {alice, bob, "fffffffffffffffff"}, append(ids(63), carol), append(ids(64), carol),
	}
}

// wrapLists returns lists of wraps that are valid and some that are not.
func wrapLists() [][]api.Wrap {
	list := [][]api.Wrap{nil, {}, {wrap1}, {wrap1, wrap1}, wraps(2), wraps(3), wraps(64), wraps(65), {{}}, {{}, {}}}
	for _, to := range []int{0, 1, p - 1, p} {
		list = append(list, []api.Wrap{{To: to, Eph: 37, Box: box}, wrap2}, []api.Wrap{wrap1, {To: 37, Eph: to, Box: box}})
	}
	for _, b := range []api.Box{boxWith(31, 5, 16), boxWith(33, 5, 16), boxWith(32, 5, 15), boxWith(32, 5, 17), boxWith(32, 500, 16), boxWith(32, 501, 16)} {
		list = append(list, []api.Wrap{{To: 37, Eph: 37, Box: b}, wrap2}, []api.Wrap{wrap1, {To: 37, Eph: 37, Box: b}})
	}
	return list
}

// numbers are values of N and of M at and just outside their bounds.
var numbers = []int{math.MinInt, -37, -1, 0, 1, 2, 3, 4, 18, 19, 20, 63, 64, 65, maxTime - 1, maxTime, maxTime + 1, p - 2, p - 1, p, p + 1, math.MaxInt}

// changes returns changes of all fields, to values at their bounds, just outside them, and beyond.
func changes() []change {
	long := strings.Repeat("t", 500)
	digests := []string{"", digest[:31], digest, digest + "x", prev, "x"}
	return slices.Concat(
		settings("Author", func(a *api.Act) *string { return &a.Author }, "", alice[1:], alice, bob, alice+"0", "00000000000000A1", "alice", "000000000000000g"),
		settings("Seq", func(a *api.Act) *int { return &a.Seq }, math.MinInt, -1, 0, 1, most, most+1, math.MaxInt),
		settings("Prev", func(a *api.Act) *string { return &a.Prev }, digests...),
		settings("Kind", func(a *api.Act) *int { return &a.Kind }, append([]int{math.MinInt, -1, kinds, kinds + 1, 256, math.MaxInt}, upTo(kinds)...)...),
		settings("Time", func(a *api.Act) *int { return &a.Time }, math.MinInt, -1, 0, maxTime, maxTime+1, math.MaxInt),
		settings("Object", func(a *api.Act) *string { return &a.Object }, digests...),
		settings("Target", func(a *api.Act) *string { return &a.Target }, "", bob[1:], bob, carol, bob+"0", "00000000000000B2", "bob"),
		settings("Scope", func(a *api.Act) *int { return &a.Scope }, math.MinInt, -1, 0, 1, 2, 3, 4, math.MaxInt),
		settings("Group", func(a *api.Act) *string { return &a.Group }, "", "g", long[:24], long[:25], "1g", "G", "g-"),
		settings("To", func(a *api.Act) *[]string { return &a.To }, lists()...),
		settings("Text", func(a *api.Act) *string { return &a.Text }, "", "t", long[:24], long[:25], long, long+"t", "T", "1t", "\xff\x00"),
		settings("Body", func(a *api.Act) *api.Box { return &a.Body }, api.Box{}, box, boxWith(32, 0, 16), boxWith(31, 4, 16), boxWith(33, 4, 16), boxWith(32, 4, 15), boxWith(32, 4, 17), boxWith(32, 500, 16), boxWith(32, 501, 16), boxWith(32, 0, 0), boxWith(0, 4, 0), boxWith(0, 0, 16)),
		settings("Epoch", func(a *api.Act) *int { return &a.Epoch }, math.MinInt, -1, 0, 1, most, most+1, math.MaxInt),
		settings("Wraps", func(a *api.Act) *[]api.Wrap { return &a.Wraps }, wrapLists()...),
		settings("N", func(a *api.Act) *int { return &a.N }, numbers...),
		settings("M", func(a *api.Act) *int { return &a.M }, numbers...),
		settings("E", func(a *api.Act) *int { return &a.Sig.E }, math.MinInt, -1, 0, 1, n-1, n, p, math.MaxInt),
		settings("S", func(a *api.Act) *int { return &a.Sig.S }, math.MinInt, -1, 0, 1, n-1, n, p, math.MaxInt),
	)
}

// upTo returns the integers from 0 to count - 1.
func upTo(count int) []int {
	var list []int
	for i := range count {
		list = append(list, i)
	}
	return list
}

// zero reports whether a field of a is zero or an empty list.
func zero(a api.Act, name string) bool {
	v := reflect.ValueOf(a).FieldByName(name)
	return v.IsZero() || v.Kind() == reflect.Slice && v.Len() == 0
}

func between(i, low, high int) bool { return i >= low && i <= high }

func isDigest(s string) bool { return len(s) == 32 }

func isBody(b api.Box) bool {
	return len(b.Nonce) == 32 && len(b.Tag) == 16 && len(b.Data) <= 500
}

// isAudience is the chapter's definition of a valid audience.
func isAudience(a api.Act) bool {
	public := a.Scope == 0 && a.Group == "" && a.Epoch == 0 && ident.Ids(a.To) && len(a.Text) <= 500 && a.Body == (api.Box{})
	sealed := between(a.Scope, 1, 3) && isGroup(a) && between(a.Epoch, 0, most) && ident.Ids(a.To) && (len(a.To) == 0 || a.Scope == 3) && a.Text == "" && isBody(a.Body)
	return public || sealed
}

// isGroup reports whether Group is a name for a circle, and empty otherwise.
func isGroup(a api.Act) bool {
	if a.Scope == api.ScCircle {
		return ident.Name(a.Group)
	}
	return a.Group == ""
}

// isWrapped reports whether To is a list of ids, and Wraps as many valid wraps.
func isWrapped(a api.Act) bool {
	valid := 0
	for _, w := range a.Wraps {
		if between(w.To, 1, p-1) && between(w.Eph, 1, p-1) && isBody(w.Box) {
			valid++
		}
	}
	return ident.Ids(a.To) && len(a.Wraps) == len(a.To) && valid == len(a.Wraps)
}

// fits is what the chapter's table says of the fields that the kind of a uses.
func fits(a api.Act) bool {
	switch a.Kind {
	case api.AcBegin:
		return ident.Name(a.Text) && between(a.N, 1, p-1) && between(a.M, 0, 19)
	case api.AcPost:
		return isAudience(a)
	case api.AcReply, api.AcQuote, api.AcEdit:
		return isDigest(a.Object) && isAudience(a)
	case api.AcBoost, api.AcLike, api.AcUndo, api.AcDelete, api.AcObject:
		return isDigest(a.Object)
	case api.AcFollow, api.AcAccept, api.AcRemove, api.AcBlock, api.AcMute:
		return ident.Right(a.Target)
	case api.AcReport, api.AcAppeal:
		return isDigest(a.Object) && len(a.Text) <= 500
	case api.AcCircle:
		return ident.Name(a.Group) && ident.Ids(a.To)
	case api.AcGrant:
		return between(a.Scope, 1, 3) && isGroup(a) && between(a.Epoch, 0, most) && isWrapped(a)
	case api.AcLabel:
		return ident.Name(a.Text) && (a.Object == "") != (a.Target == "") && (a.Object == "" || isDigest(a.Object)) && (a.Target == "" || ident.Right(a.Target))
	case api.AcMove:
		return between(a.N, 1, p-1) && between(a.M, 0, 19)
	case api.AcSetup:
		return len(a.To) > 0 && isWrapped(a) && between(a.N, 1, len(a.To)) && between(a.M, 1, p-1)
	case api.AcJudge:
		return isDigest(a.Object) && (a.N == 0 || a.N == 1)
	case api.AcList:
		return ident.Right(a.Target) && len(a.Text) <= 500 && between(a.N, 0, maxTime)
	}
	return false
}

// isRight is the chapter's definition of a valid activity.
func isRight(a api.Act) bool {
	if !ident.Right(a.Author) || !between(a.Seq, 0, most) || !between(a.Time, 0, maxTime) || !between(a.Sig.E, 0, n-1) || !between(a.Sig.S, 0, n-1) || !between(a.Kind, 0, kinds-1) {
		return false
	}
	if (a.Kind == api.AcBegin) != (a.Seq == 0) || a.Seq == 0 && a.Prev != "" || a.Seq != 0 && !isDigest(a.Prev) {
		return false
	}
	used := strings.Fields(uses[a.Kind])
	for _, name := range names {
		if !slices.Contains(used, name) && !zero(a, name) {
			return false
		}
	}
	return fits(a)
}

// piece is a part of an encoding: a number, or bytes as they are.
type piece struct {
	isNumber bool
	number   int
	raw      string
}

// pieces is an encoding that is not put together yet.
type pieces []piece

func (l *pieces) num(i int) { *l = append(*l, piece{isNumber: true, number: i}) }

func (l *pieces) text(s string) {
	l.num(len(s))
	*l = append(*l, piece{raw: s})
}

func (l *pieces) box(b api.Box) {
	l.text(b.Nonce)
	l.text(b.Data)
	l.text(b.Tag)
}

// corePieces is the chapter's concatenation, also for an activity that is not valid.
func corePieces(a api.Act) pieces {
	var l pieces
	l.text("act")
	l.text(a.Author)
	l.num(a.Seq)
	l.text(a.Prev)
	l.num(a.Kind)
	l.num(a.Time)
	l.text(a.Object)
	l.text(a.Target)
	l.num(a.Scope)
	l.text(a.Group)
	l.num(len(a.To))
	for _, id := range a.To {
		l.text(id)
	}
	l.text(a.Text)
	l.box(a.Body)
	l.num(a.Epoch)
	l.num(len(a.Wraps))
	for _, w := range a.Wraps {
		l.num(w.To)
		l.num(w.Eph)
		l.box(w.Box)
	}
	l.num(a.N)
	l.num(a.M)
	return l
}

// allPieces is the core with the signature.
func allPieces(a api.Act) pieces {
	l := corePieces(a)
	l.num(a.Sig.E)
	l.num(a.Sig.S)
	return l
}

// join puts the pieces together. A negative number has no encoding.
func (l pieces) join() string {
	var out []byte
	for _, x := range l {
		if x.isNumber && x.number >= 0 {
			out = binary.AppendUvarint(out, uint64(x.number))
		}
		out = append(out, x.raw...)
	}
	return string(out)
}

// scanner reads an encoding; it does not care in which way a number is written.
type scanner struct {
	rest   string
	failed bool
}

func (r *scanner) num() int {
	v, size := binary.Uvarint([]byte(r.rest[:min(10, len(r.rest))]))
	if size <= 0 || v > math.MaxInt || r.failed {
		r.failed = true
		return 0
	}
	r.rest = r.rest[size:]
	return int(v)
}

func (r *scanner) text() string {
	size := r.num()
	if r.failed || size > len(r.rest) {
		r.failed = true
		return ""
	}
	s := r.rest[:size]
	r.rest = r.rest[size:]
	return s
}

func (r *scanner) box() api.Box {
	nonce := r.text()
	data := r.text()
	return api.Box{Nonce: nonce, Data: data, Tag: r.text()}
}

// decoded returns the valid activity whose encoding is s: the one that can be read from s, if encoding it gives s again.
func decoded(s string) (api.Act, bool) {
	r := &scanner{rest: s}
	var a api.Act
	r.text()
	a.Author, a.Seq = r.text(), r.num()
	a.Prev, a.Kind, a.Time = r.text(), r.num(), r.num()
	a.Object, a.Target = r.text(), r.text()
	a.Scope, a.Group = r.num(), r.text()
	for count := r.num(); count > 0 && !r.failed; count-- {
		a.To = append(a.To, r.text())
	}
	a.Text, a.Body, a.Epoch = r.text(), r.box(), r.num()
	for count := r.num(); count > 0 && !r.failed; count-- {
		to, eph := r.num(), r.num()
		a.Wraps = append(a.Wraps, api.Wrap{To: to, Eph: eph, Box: r.box()})
	}
	a.N, a.M = r.num(), r.num()
	a.Sig.E, a.Sig.S = r.num(), r.num()
	if r.failed || !isRight(a) || allPieces(a).join() != s {
		return api.Act{}, false
	}
	return a, true
}

// clone returns an equal activity in other memory.
func clone(a api.Act) api.Act {
	for _, s := range []*string{&a.Author, &a.Prev, &a.Object, &a.Target, &a.Group, &a.Text, &a.Body.Nonce, &a.Body.Data, &a.Body.Tag} {
		*s = strings.Clone(*s)
	}
	a.To, a.Wraps = slices.Clone(a.To), slices.Clone(a.Wraps)
	for i, id := range a.To {
		a.To[i] = strings.Clone(id)
	}
	for i, w := range a.Wraps {
		a.Wraps[i].Box = api.Box{Nonce: strings.Clone(w.Box.Nonce), Data: strings.Clone(w.Box.Data), Tag: strings.Clone(w.Box.Tag)}
	}
	return a
}

// equal reports whether a and b are equal, where an empty list equals a nil one.
func equal(a, b api.Act) bool {
	for _, x := range []*api.Act{&a, &b} {
		if len(x.To) == 0 {
			x.To = nil
		}
		if len(x.Wraps) == 0 {
			x.Wraps = nil
		}
	}
	return reflect.DeepEqual(a, b)
}

// with returns a copy of a with a change.
func with(a api.Act, c change) api.Act {
	a = clone(a)
	c.apply(&a)
	return a
}

// rightIs fails unless Right returns want, and the definition agrees.
func rightIs(t *testing.T, a api.Act, want bool, about ...any) {
	t.Helper()
	if got, model := act.Right(a), isRight(a); got != want || model != want {
		t.Errorf("kind %d %v: Right %v, the definition %v, want %v", a.Kind, about, got, model, want)
	}
}
