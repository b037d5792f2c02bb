package act_test

import (
	"math"
	"strings"
	"sync"
	"testing"

	"agora/act"
	"agora/api"
	"agora/code"
	"agora/group"
	"agora/sign"
	"agora/sum"
)

// wrongKeys are keys that are not right.
var wrongKeys = []api.Key{{}, {Secret: 1}, {Public: 37}, {Secret: 1, Public: 38}, {Secret: 1, Public: 37 + p}, {Secret: 2, Public: 37}, {Secret: n, Public: 1}, {Secret: n + 1, Public: 37}, {Secret: -1, Public: 37}, {Secret: math.MaxInt, Public: math.MinInt}}

// rightKeys returns keys that are right.
func rightKeys() []api.Key {
	return []api.Key{sign.Key("alice"), sign.Key("bob"), sign.Key(""), sign.Of(1), sign.Of(n - 1), sign.Of(n / 2)}
}

// signatures are signatures that an activity may have before it is signed, right or wrong, within their bounds or not.
var signatures = []api.Sig{{}, {E: 1, S: 1}, {E: n - 1, S: n - 1}, {E: n, S: n}, {E: -1}, {S: -1}, {E: math.MinInt, S: math.MaxInt}, {E: p, S: 5}}

// P12.3: Sign returns the activity with the signature of its core, whatever signature it had; it verifies (P12.6).
func TestSign(t *testing.T) {
	keys := rightKeys()
	for i, a := range valid() {
		k := keys[i%len(keys)]
		want := a
		want.Sig = sign.Sign(k, corePieces(a).join())
		for _, a.Sig = range append(signatures, want.Sig, sign.Sign(keys[0], "other")) {
			got := act.Sign(k, a)
			if !equal(got, want) {
				t.Errorf("valid %d with signature %v: %+v", i, a.Sig, got)
			}
			if !act.Verify(k.Public, got) || !act.Right(got) {
				t.Errorf("valid %d with signature %v does not verify", i, a.Sig)
			}
		}
	}
}

// P12.3: a key that is not right does not sign.
func TestSignWrongKey(t *testing.T) {
	for i, a := range valid() {
		for _, k := range wrongKeys {
			if got := act.Sign(k, a); !equal(got, api.Act{}) {
				t.Errorf("valid %d, key %v: %+v", i, k, got)
			}
		}
	}
}

// P12.3: what is not valid, apart from its signature, is not signed.
func TestSignNotValid(t *testing.T) {
	k := sign.Key("alice")
	for i, a := range valid() {
		for _, c := range changes() {
			b := with(a, c)
			b.Sig = api.Sig{}
			if isRight(b) {
				continue
			}
			for _, b.Sig = range []api.Sig{{}, a.Sig, {E: -1}} {
				if got := act.Sign(k, b); !equal(got, api.Act{}) {
					t.Errorf("valid %d, %s: %+v", i, c.name, got)
				}
			}
		}
	}
	for _, k := range append(rightKeys(), wrongKeys...) {
		if got := act.Sign(k, api.Act{}); !equal(got, api.Act{}) {
			t.Errorf("the zero activity, key %v: %+v", k, got)
		}
	}
}

// P12.3: an activity verifies under the key that signed it, and under no other integer.
func TestVerify(t *testing.T) {
	keys := rightKeys()
	for i, a := range valid() {
		k := keys[i%len(keys)]
		a = act.Sign(k, a)
		for _, other := range keys {
			if got := act.Verify(other.Public, a); got != (other == k) {
				t.Errorf("valid %d, signed by %v, under %v: %v", i, k, other, got)
			}
		}
		for _, public := range []int{0, 1, -1, 2, p - 1, p, -p, k.Public + p, k.Public - p, k.Public + 2*p, -k.Public, p - k.Public, k.Secret, math.MinInt, math.MaxInt} {
			if got := act.Verify(public, a); got != (public == k.Public) {
				t.Errorf("valid %d, signed by %v, under %d: %v", i, k, public, got)
			}
		}
	}
}

// P12.3: after a change of any field an activity does not verify, unless the change leaves it as it is.
func TestVerifyChanged(t *testing.T) {
	keys := rightKeys()
	for i, a := range valid() {
		k := keys[i%len(keys)]
		a = act.Sign(k, a)
		for _, c := range changes() {
			b := with(a, c)
			if got := act.Verify(k.Public, b); got != equal(a, b) {
				t.Errorf("valid %d, %s: %v", i, c.name, got)
			}
		}
		for _, sig := range []api.Sig{{E: a.Sig.E + 1, S: a.Sig.S}, {E: a.Sig.E - 1, S: a.Sig.S}, {E: a.Sig.E, S: a.Sig.S + 1}, {E: a.Sig.E, S: a.Sig.S - 1}, {E: a.Sig.E + n, S: a.Sig.S}, {E: a.Sig.E, S: a.Sig.S + n}, {E: a.Sig.E - n, S: a.Sig.S}, {E: a.Sig.E, S: a.Sig.S - n}, {E: a.Sig.S, S: a.Sig.E}, {E: n - a.Sig.E, S: a.Sig.S}, {E: -a.Sig.E, S: -a.Sig.S}, sign.Sign(k, ""), sign.Sign(k, act.Bytes(a)), sign.Sign(k, act.Core(a)+"\x00"), sign.Sign(k, strings.TrimPrefix(act.Core(a), "\x03act"))} {
			b := a
			b.Sig = sig
			if act.Verify(k.Public, b) {
				t.Errorf("valid %d verifies with %v instead of %v", i, sig, a.Sig)
			}
		}
	}
}

// P12.3: what is not valid does not verify, though the concatenation of its parts was signed.
func TestVerifyNotValid(t *testing.T) {
	k := sign.Key("alice")
	for i, a := range onePerKind() {
		for _, c := range changes() {
			b := with(a, c)
			b.Sig = api.Sig{}
			if isRight(b) {
				continue
			}
			for _, core := range []string{corePieces(b).join(), ""} {
				b.Sig = sign.Sign(k, core)
				if act.Verify(k.Public, b) {
					t.Errorf("kind %d, %s: verifies", i, c.name)
				}
			}
		}
	}
	if act.Verify(k.Public, api.Act{Sig: sign.Sign(k, "")}) || act.Verify(0, api.Act{}) {
		t.Error("the zero activity verifies")
	}
}

// P12.3 and P12.7: whether an activity verifies is what sign.Verify says of the key, the core and the signature; so it is the same for equal activities in other memory.
func TestVerifyByCore(t *testing.T) {
	keys := rightKeys()
	for i, a := range valid() {
		core := corePieces(a).join()
		for _, k := range keys {
			for _, a.Sig = range append(signatures, sign.Sign(k, core), sign.Sign(keys[0], core), sign.Sign(k, "other")) {
				want := isRight(a) && sign.Verify(k.Public, core, a.Sig)
				b := clone(a)
				if len(b.To) == 0 {
					b.To = []string{}
				}
				if len(b.Wraps) == 0 {
					b.Wraps = []api.Wrap{}
				}
				if act.Verify(k.Public, a) != want || act.Verify(k.Public, b) != want {
					t.Errorf("valid %d, key %v, signature %v: not %v", i, k, a.Sig, want)
				}
			}
		}
	}
	// The powers of the public key 1 are 1, so that anybody can sign for it; such a signature verifies like any other.
	a := onePerKind()[api.AcPost]
	core := corePieces(a).join()
	for s := range 5 {
		hashed := code.Text("sign") + code.Num(group.Exp(group.G, s)) + code.Num(1) + code.Text(core)
		a.Sig = api.Sig{E: sum.Num(sum.Sha(hashed)) % n, S: s}
		if !act.Verify(1, a) {
			t.Error("public key 1, S", s)
		}
	}
}

// P12.4: Same of activities that differ in a single field, in an element or the length of a list, or in a part of a box, valid or not.
func TestSame(t *testing.T) {
	list := append(valid(), api.Act{}, api.Act{Kind: -1, N: math.MinInt}, api.Act{To: []string{"", ""}, Wraps: []api.Wrap{{}, {}}})
	for i, a := range list {
		if !act.Same(a, a) || !act.Same(a, clone(a)) {
			t.Errorf("%d is not the same as itself", i)
		}
		for _, c := range changes() {
			b := with(a, c)
			want := equal(a, b)
			if act.Same(a, b) != want || act.Same(b, a) != want {
				t.Errorf("%d, %s: not %v", i, c.name, want)
			}
		}
	}
}

// full is an activity that is not valid, all of whose fields are set.
func full() api.Act {
	return api.Act{
		Author: "a", Seq: 1, Prev: "b", Kind: 2, Time: 3, Object: "c", Target: "d", Scope: 4, Group: "e", To: []string{"f", "g", "h"}, Text: "i",
		Body: api.Box{Nonce: "j", Data: "k", Tag: "l"}, Epoch: 5,
		Wraps: []api.Wrap{{To: 6, Eph: 7, Box: api.Box{Nonce: "m", Data: "n", Tag: "o"}}, {To: 8, Eph: 9, Box: api.Box{Nonce: "p", Data: "q", Tag: "r"}}},
		N:     10, M: 11, Sig: api.Sig{E: 12, S: 13},
	}
}

// P12.4: Same sees a difference in each part.
func TestSameParts(t *testing.T) {
	if !act.Same(full(), full()) {
		t.Error("full is not the same as itself")
	}
	for i, spoil := range []func(a *api.Act){
		func(a *api.Act) { a.Author = "A" }, func(a *api.Act) { a.Seq-- }, func(a *api.Act) { a.Prev = "" }, func(a *api.Act) { a.Kind++ }, func(a *api.Act) { a.Time = -3 },
		func(a *api.Act) { a.Object = "cc" }, func(a *api.Act) { a.Target = "" }, func(a *api.Act) { a.Scope = 0 }, func(a *api.Act) { a.Group = "f" }, func(a *api.Act) { a.Text = "I" },
		func(a *api.Act) { a.To[0] = "x" }, func(a *api.Act) { a.To[1] = "" }, func(a *api.Act) { a.To[2] = "hh" }, func(a *api.Act) { a.To = nil }, func(a *api.Act) { a.To = a.To[:2] },
		func(a *api.Act) { a.To = a.To[1:] }, func(a *api.Act) { a.To = append(a.To, "") }, func(a *api.Act) { a.To[0], a.To[1] = a.To[1], a.To[0] }, func(a *api.Act) { a.To = []string{"fgh"} },
		func(a *api.Act) { a.Body.Nonce = "" }, func(a *api.Act) { a.Body.Data = "kk" }, func(a *api.Act) { a.Body.Tag = "L" }, func(a *api.Act) { a.Body.Data, a.Body.Tag = "l", "k" }, func(a *api.Act) { a.Epoch = 1<<32 + 5 },
		func(a *api.Act) { a.Wraps[0].To++ }, func(a *api.Act) { a.Wraps[1].Eph-- }, func(a *api.Act) { a.Wraps[0].Box.Nonce = "M" }, func(a *api.Act) { a.Wraps[1].Box.Data = "" }, func(a *api.Act) { a.Wraps[1].Box.Tag = "R" },
		func(a *api.Act) { a.Wraps = nil }, func(a *api.Act) { a.Wraps = a.Wraps[:1] }, func(a *api.Act) { a.Wraps = append(a.Wraps, api.Wrap{}) }, func(a *api.Act) { a.Wraps[0], a.Wraps[1] = a.Wraps[1], a.Wraps[0] },
		func(a *api.Act) { a.N, a.M = a.M, a.N }, func(a *api.Act) { a.N = 1<<32 + 10 }, func(a *api.Act) { a.M = -11 }, func(a *api.Act) { a.Sig.E = 0 }, func(a *api.Act) { a.Sig.S = 0 }, func(a *api.Act) { a.Sig.E, a.Sig.S = a.Sig.S, a.Sig.E },
	} {
		other := full()
		spoil(&other)
		if act.Same(full(), other) || act.Same(other, full()) {
			t.Errorf("change %d is not seen", i)
		}
	}
	empty := api.Act{To: []string{}, Wraps: []api.Wrap{}}
	if !act.Same(empty, api.Act{}) || !act.Same(api.Act{}, empty) || act.Same(api.Act{To: []string{""}}, empty) || act.Same(empty, api.Act{Wraps: []api.Wrap{{}}}) {
		t.Error("empty lists")
	}
}

// P12.5: Sign, Verify and Same change nothing that they are given, and what Sign returns is memory of its own.
func TestSignMemory(t *testing.T) {
	k := sign.Key("alice")
	for i, a := range valid() {
		a.To = append(clone(a).To, "beyond")[:len(a.To)]
		a.Wraps = append(clone(a).Wraps, api.Wrap{To: -1})[:len(a.Wraps)]
		before := clone(a)
		got := act.Sign(k, a)
		kept := clone(got)
		act.Verify(k.Public, a)
		act.Same(a, got)
		if !equal(a, before) || a.To[:len(a.To)+1][len(a.To)] != "beyond" || a.Wraps[:len(a.Wraps)+1][len(a.Wraps)] != (api.Wrap{To: -1}) {
			t.Errorf("valid %d is changed", i)
		}
		for x := range a.To {
			a.To[x] = "x"
		}
		for x := range a.Wraps {
			a.Wraps[x] = api.Wrap{}
		}
		if !equal(got, kept) || !act.Verify(k.Public, got) {
			t.Errorf("valid %d: the result changes with the argument", i)
		}
		before = clone(a)
		for x := range got.To {
			got.To[x] = "y"
		}
		for x := range got.Wraps {
			got.Wraps[x].To = -5
		}
		_, _ = append(got.To, "z"), append(got.Wraps, wrap1)
		if !equal(a, before) || a.To[:len(a.To)+1][len(a.To)] != "beyond" || a.Wraps[:len(a.Wraps)+1][len(a.Wraps)] != (api.Wrap{To: -1}) {
			t.Errorf("valid %d: the argument changes with the result", i)
		}
	}
}

// P12.5: all functions return the same again, after calls with other arguments and in several goroutines at once.
func TestPure(t *testing.T) {
	list := valid()
	k := sign.Key("alice")
	var workers sync.WaitGroup
	for range 4 {
		workers.Go(func() {
			for i, a := range list {
				s := act.Sign(k, a)
				back, ok := act.Read(act.Bytes(s))
				if !act.Right(a) || act.Core(a) != act.Core(s) || !ok || !act.Same(s, back) || !act.Verify(k.Public, back) || !equal(s, act.Sign(k, back)) {
					t.Errorf("valid %d: another result", i)
				}
			}
		})
	}
	workers.Wait()
}
