package act

import (
	"agora/api"
	"agora/ident"
)

const (
	prime      = 1<<61 - 1 // P of layer 4, which is not among the layers that this one imports
	order      = prime - 1 // N of layer 4
	most       = 1 << 30   // the greatest Seq and the greatest Epoch
	digestSize = 32        // bytes of a digest
	nonceSize  = 32        // bytes of the nonce of a box
	tagSize    = 16        // bytes of the tag of a box
)

// fields is a set of those fields of an activity that some kinds use and others do not.
type fields uint16

const (
	object fields = 1 << iota
	target
	scope
	group
	to
	text
	body
	epoch
	wraps
	numberN
	numberM

	audience = scope | group | to | text | body | epoch
)

// rule is what makes an activity of a kind valid: the fields that the kind uses, and whether they are as they should be. The other fields are zero.
type rule struct {
	uses fields
	fits func(a api.Act) bool
}

// rules returns the rule of each kind.
func rules() map[int]rule {
	onObject := rule{object, hasObject}
	onTarget := rule{target, hasTarget}
	answer := rule{object | audience, func(a api.Act) bool { return hasObject(a) && hasAudience(a) }}
	complaint := rule{object | text, func(a api.Act) bool { return hasObject(a) && isShort(a.Text) }}
	return map[int]rule{
		api.AcBegin:  {text | numberN | numberM, func(a api.Act) bool { return ident.Name(a.Text) && hasAccount(a) }},
		api.AcPost:   {audience, hasAudience},
		api.AcReply:  answer,
		api.AcQuote:  answer,
		api.AcBoost:  onObject,
		api.AcLike:   onObject,
		api.AcUndo:   onObject,
		api.AcFollow: onTarget,
		api.AcAccept: onTarget,
		api.AcRemove: onTarget,
		api.AcBlock:  onTarget,
		api.AcMute:   onTarget,
		api.AcReport: complaint,
		api.AcDelete: onObject,
		api.AcEdit:   answer,
		api.AcCircle: {group | to, func(a api.Act) bool { return ident.Name(a.Group) && ident.Ids(a.To) }},
		api.AcGrant:  {scope | group | epoch | to | wraps, func(a api.Act) bool { return hasEpoch(a) && hasWraps(a) }},
		api.AcLabel:  {text | object | target, func(a api.Act) bool { return ident.Name(a.Text) && hasEither(a) }},
		api.AcMove:   {numberN | numberM, hasAccount},
		api.AcSetup:  {to | wraps | numberN | numberM, hasFriends},
		api.AcObject: onObject,
		api.AcAppeal: complaint,
		api.AcJudge:  {object | numberN, func(a api.Act) bool { return hasObject(a) && within(a.N, 0, 1) }},
		api.AcList: {target | text | numberN, func(a api.Act) bool {
			return hasTarget(a) && isShort(a.Text) && within(a.N, 0, api.MaxTime)
		}},
	}
}

// Right reports whether a is valid; its signature may be any one within the bounds.
func Right(a api.Act) bool {
	r, ok := rules()[a.Kind]
	return ok && ident.Right(a.Author) && hasPlace(a) && within(a.Time, 0, api.MaxTime) &&
		within(a.Sig.E, 0, order-1) && within(a.Sig.S, 0, order-1) && filled(a)&^r.uses == 0 && r.fits(a)
}

// filled returns the fields of a that are not zero.
func filled(a api.Act) fields {
	return object.when(a.Object != "") | target.when(a.Target != "") | scope.when(a.Scope != 0) | group.when(a.Group != "") |
		to.when(len(a.To) > 0) | text.when(a.Text != "") | body.when(a.Body != api.Box{}) | epoch.when(a.Epoch != 0) |
		wraps.when(len(a.Wraps) > 0) | numberN.when(a.N != 0) | numberM.when(a.M != 0)
}

// when returns f if it is to be in a set, and the empty set otherwise.
func (f fields) when(present bool) fields {
	if !present {
		return 0
	}
	return f
}

// hasPlace reports whether a is the beginning of a chain or names what it continues.
func hasPlace(a api.Act) bool {
	if a.Kind == api.AcBegin {
		return a.Seq == 0 && a.Prev == ""
	}
	return within(a.Seq, 1, most) && isDigest(a.Prev)
}

func hasObject(a api.Act) bool { return isDigest(a.Object) }

func hasTarget(a api.Act) bool { return ident.Right(a.Target) }

// hasEither reports whether a has either an Object or a Target.
func hasEither(a api.Act) bool {
	return a.Target == "" && hasObject(a) || a.Object == "" && hasTarget(a)
}

// hasAccount reports whether N is a public key and M a home server.
func hasAccount(a api.Act) bool { return isPublic(a.N) && within(a.M, 0, api.MaxServers-1) }

// hasAudience reports whether the audience of a is valid: public, or sealed.
func hasAudience(a api.Act) bool {
	if a.Scope == api.ScPublic {
		return a.Group == "" && a.Epoch == 0 && ident.Ids(a.To) && isShort(a.Text) && a.Body == (api.Box{})
	}
	return hasEpoch(a) && ident.Ids(a.To) && (a.Scope == api.ScMention || len(a.To) == 0) && a.Text == "" && isBox(a.Body)
}

// hasEpoch reports whether Scope, Group and Epoch name an epoch of a group.
func hasEpoch(a api.Act) bool {
	switch a.Scope {
	case api.ScFollowers, api.ScMention:
		return a.Group == "" && within(a.Epoch, 0, most)
	case api.ScCircle:
		return ident.Name(a.Group) && within(a.Epoch, 0, most)
	}
	return false
}

// hasWraps reports whether To is a list of ids, for each of which there is a valid wrap.
func hasWraps(a api.Act) bool {
	if !ident.Ids(a.To) || len(a.Wraps) != len(a.To) {
		return false
	}
	for _, w := range a.Wraps {
		if !isPublic(w.To) || !isPublic(w.Eph) || !isBox(w.Box) {
			return false
		}
	}
	return true
}

// hasFriends reports whether To, Wraps, N and M give shares of a recovery key to friends. There is at least one of them, as the threshold N is from 1 to their number.
func hasFriends(a api.Act) bool {
	return hasWraps(a) && within(a.N, 1, len(a.To)) && isPublic(a.M)
}

func isDigest(s string) bool { return len(s) == digestSize }

func isShort(s string) bool { return len(s) <= api.MaxText }

func isPublic(n int) bool { return within(n, 1, prime-1) }

// isBox reports whether the parts of a sealed box have the right lengths.
func isBox(b api.Box) bool {
	return len(b.Nonce) == nonceSize && len(b.Tag) == tagSize && isShort(b.Data)
}

// within reports whether n is from low to high.
func within(n, low, high int) bool { return low <= n && n <= high }
