package act

import (
	"strings"

	"agora/api"
	"agora/code"
)

// opening is the first text of every core, so that nothing else that is signed is taken for an activity.
const opening = "act"

// Core returns what the signature of a signs, or "" if a is not valid.
func Core(a api.Act) string {
	if !Right(a) {
		return ""
	}
	parts := []string{
		code.Text(opening), code.Text(a.Author), code.Num(a.Seq), code.Text(a.Prev), code.Num(a.Kind), code.Num(a.Time),
		code.Text(a.Object), code.Text(a.Target), code.Num(a.Scope), code.Text(a.Group), code.List(a.To), code.Text(a.Text),
		boxBytes(a.Body), code.Num(a.Epoch), code.Num(len(a.Wraps)),
	}
	for _, w := range a.Wraps {
		parts = append(parts, code.Num(w.To), code.Num(w.Eph), boxBytes(w.Box))
	}
	parts = append(parts, code.Num(a.N), code.Num(a.M))
	return strings.Join(parts, "")
}

// boxBytes returns the encoding of a box.
func boxBytes(b api.Box) string { return code.Text(b.Nonce) + code.Text(b.Data) + code.Text(b.Tag) }

// Bytes returns the encoding of a with its signature, or "" if a is not valid.
func Bytes(a api.Act) string {
	core := Core(a)
	if core == "" {
		return ""
	}
	return core + code.Num(a.Sig.E) + code.Num(a.Sig.S)
}

// Read returns the valid activity with this encoding, and true; the zero activity and false if there is none. Layer 2 encodes each value in one way only, so that what it reads from s is encoded as s.
func Read(s string) (api.Act, bool) {
	r := code.Open(s)
	opened := r.Text() == opening
	a := takeAct(r)
	if !opened || !r.Done() || !Right(a) {
		return api.Act{}, false
	}
	return a, true
}

// takeAct reads an activity behind its opening. The calls in a literal are made in the order in which they are written.
func takeAct(r *code.Reader) api.Act {
	return api.Act{
		Author: r.Text(), Seq: r.Num(), Prev: r.Text(), Kind: r.Num(), Time: r.Num(),
		Object: r.Text(), Target: r.Text(), Scope: r.Num(), Group: r.Text(), To: r.List(), Text: r.Text(),
		Body: takeBox(r), Epoch: r.Num(), Wraps: takeWraps(r),
		N: r.Num(), M: r.Num(), Sig: api.Sig{E: r.Num(), S: r.Num()},
	}
}

// takeBox reads a box.
func takeBox(r *code.Reader) api.Box {
	return api.Box{Nonce: r.Text(), Data: r.Text(), Tag: r.Text()}
}

// takeWraps reads a count, and that many wraps. If there are more than an activity may have, it suffices to read one too many.
func takeWraps(r *code.Reader) []api.Wrap {
	var l []api.Wrap
	for range min(r.Num(), api.MaxTo+1) {
		l = append(l, api.Wrap{To: r.Num(), Eph: r.Num(), Box: takeBox(r)})
	}
	return l
}
