package act_test

import (
	"crypto/sha256"
	"encoding/hex"
	"math"
	"math/rand"
	"slices"
	"strings"
	"testing"

	"agora/act"
	"agora/api"
	"agora/sign"
)

// byAnother contains the digests of the encodings of onePerKind, signed with the key of the seed alice, and their signatures, as another program computed them.
var byAnother = []struct {
	digest string
	sig    api.Sig
}{
	{"f5504c42e06f4259aca2786c38bfd79fd0fb1935af5c4814aa3a490cfe38f687", api.Sig{E: 1655661832700952448, S: 2218396251302542726}},
	{"7a811657bf5012748fedd9d96e270a4abd213f95d2b203b460cfcbe78cbe5e55", api.Sig{E: 450214122006802125, S: 163463241617411}},
	{"6361afb4a2a2abd0482a45efdb9304ed6743f6b18a053ffe278055fb26062fa1", api.Sig{E: 349420174446941899, S: 1639053023749098821}},
	{"f42cd1827e76ca765115ac664e9fa2945033cffcef19a31335fdcf2251280d22", api.Sig{E: 779502023636834019, S: 68969771479011262}},
	{"3a0a9c038c85f3c2378595d756ce7913bbe8f2e26601b21736a7baae1ce49a39", api.Sig{E: 758163870111247120, S: 1001993943295171726}},
	{"862d1b4a24315ca8a36377286ad0914f4c04db6acfb56e52fd142502cc143b40", api.Sig{E: 1120041677277707778, S: 1644782817566085480}},
	{"129cb3119322fea8cf1ab2905e49e2c3a74aae1da182d2af9f5a4df9ac48a89d", api.Sig{E: 743917169608179061, S: 1663356029579248227}},
	{"397eabea7585da17c14556f6ff779bd5a1ae4916447c54b54691d820b88da24d", api.Sig{E: 530496466554283625, S: 946298210140844605}},
	{"96791a92d413defcbe640c79f89b3c8fe9265e2207bd13cbdbd8b8d6dab20323", api.Sig{E: 735790831707253715, S: 551902742497228306}},
	{"aa7ee3c7c03a28586b96ab15602811bef789283990038df3e28370d5abfdcc55", api.Sig{E: 603285483169527797, S: 1630045794401008927}},
	{"479d80f688e18dcfd21643ebcfa1eca9bc132204d0a13d6934b11c02754c7c43", api.Sig{E: 1431938449899919970, S: 367031835960704405}},
	{"97d493ebd28f4949e44508cbfe2ded8ad4ac388d49d3130481326f485f415a11", api.Sig{E: 1556038473177565363, S: 1478020612072453989}},
	{"ceff447695025fd71337ed2b1634acd3a03b30777f3734a9220e8f452a060ee4", api.Sig{E: 912720198738987833, S: 2171694940837327892}},
	{"dd5975ca50c5c1fdf9d2d5a43e686b3ad8b7278cfcb438673b6b1766a88877a1", api.Sig{E: 1648185691442018996, S: 1881705531935295511}},
	{"8e4b145f7980d59631dd700d9796f245fed96fb5070d54875a605216fd610e44", api.Sig{E: 1268559432163625842, S: 552162386666241844}},
	{"070491459e18aef2fad6aca325bfb6037ef2be977df4b614bd7dac382add94db", api.Sig{E: 1427386540858218450, S: 1704175632333359666}},
	{"1207e2dc23eb9c080c2560a569487de6862a534b862727517db810c4144ccc5a", api.Sig{E: 1424722842277837597, S: 365937763865298146}},
	{"d50e6f29968386922e41f6f41a541b976c0c3790c76ec093985d3657b80fbbfa", api.Sig{E: 2297691379997171402, S: 363645180392683748}},
	{"f623d629defb0f4a2490c2689ef56a1ca3bf4696ff2a62868e71a136e50aae95", api.Sig{E: 680667876194658722, S: 2228311849928680194}},
	{"d06d200d99745b4cfd1a9118b03186ee53a66d677c9860778ffdaaaee1e552aa", api.Sig{E: 1521927627955160361, S: 2093321165419916030}},
	{"943e1347a5e9db288af586ae55ccc7a98a04676544845699d96854f6703af51d", api.Sig{E: 477457667422454216, S: 546081272776807188}},
	{"96cabed0031f74567a6cf159b09aead3eeabc6231f51235ae077c86c9856ccbc", api.Sig{E: 1133047120064753153, S: 662118391931226693}},
	{"2f64b34ddbc90f6c330417bf109bb94d71fc5829f7559ae57900dca44ba003df", api.Sig{E: 165034937784758549, S: 1915596278807528768}},
	{"30f1afdb6fb40b6c2fae66bf64b5962bd155d18524137cbefbf4a0878c3b74d4", api.Sig{E: 181511195876727786, S: 941931405623580935}},
}

// P12.2 and P12.3: encodings and signatures that another program computed.
func TestKnown(t *testing.T) {
	k := sign.Key("alice")
	for kind, a := range onePerKind() {
		got := act.Sign(k, a)
		digest := sha256.Sum256([]byte(act.Bytes(got)))
		if want := byAnother[kind]; got.Sig != want.sig || hex.EncodeToString(digest[:]) != want.digest {
			t.Errorf("kind %d: signature %v, digest %x", kind, got.Sig, digest)
		}
	}
	const post = "0361637410303030303030303030303030303061310120000102030405060708090a0b0c0d0e0f101112131415161718191a1b1c1d1e1f01e8070000000002103030303030303030303030303030613110303030303030303030303030303062320568656c6c6f00000000000000cdddd1f8bcebde9f0683a0cd83b49525"
	if got := act.Bytes(act.Sign(k, onePerKind()[api.AcPost])); hex.EncodeToString([]byte(got)) != post {
		t.Errorf("a post: %x", got)
	}
}

// P12.2: the core and the encoding of valid activities are the chapter's concatenations.
func TestBytes(t *testing.T) {
	for i, a := range valid() {
		core, all := act.Core(a), act.Bytes(a)
		if core != corePieces(a).join() || all != allPieces(a).join() {
			t.Errorf("valid %d: core %x, bytes %x", i, core, all)
		}
		unsigned := a
		unsigned.Sig = api.Sig{}
		if act.Core(unsigned) != core || !strings.HasPrefix(all, core) || act.Bytes(unsigned) != core+"\x00\x00" {
			t.Errorf("valid %d: the core depends on the signature", i)
		}
		nils, empties := a, a
		if len(a.To) == 0 {
			nils.To, empties.To = nil, []string{}
		}
		if len(a.Wraps) == 0 {
			nils.Wraps, empties.Wraps = nil, []api.Wrap{}
		}
		if act.Bytes(nils) != all || act.Bytes(empties) != all {
			t.Errorf("valid %d: nil and empty lists", i)
		}
	}
	if act.Core(api.Act{}) != "" || act.Bytes(api.Act{}) != "" {
		t.Error("the zero activity is encoded")
	}
}

// reads fails unless Read returns what the definition says.
func reads(t *testing.T, s string, about ...any) {
	t.Helper()
	got, ok := act.Read(s)
	want, isThere := decoded(s)
	if ok != isThere || !equal(got, want) {
		t.Errorf("%v: Read of %d bytes: %v, %+v, not %v, %+v", about, len(s), ok, got, isThere, want)
	}
	if ok && act.Bytes(got) != s {
		t.Errorf("%v: Bytes does not restore %d bytes", about, len(s))
	}
}

// refuses fails unless Read finds no activity in s.
func refuses(t *testing.T, s string, about ...any) {
	t.Helper()
	if got, ok := act.Read(s); ok || !equal(got, api.Act{}) {
		t.Errorf("%v: Read of %d bytes: %v, %+v", about, len(s), ok, got)
	}
}

// P12.2 and P12.6: Read inverts Bytes.
func TestRead(t *testing.T) {
	for i, a := range valid() {
		got, ok := act.Read(act.Bytes(a))
		if !ok || !equal(got, a) || !act.Same(got, a) {
			t.Errorf("valid %d: %v, %+v", i, ok, got)
		}
		reads(t, act.Bytes(a), "valid", i)
	}
}

// P12.2: every valid activity that differs in one field is read back, too; the encoding of one that is not valid is not read.
func TestReadChanged(t *testing.T) {
	for i, a := range valid() {
		for _, c := range changes() {
			b := with(a, c)
			s := allPieces(b).join()
			if !isRight(b) {
				reads(t, s, "valid", i, c.name)
				continue
			}
			if got, ok := act.Read(s); !ok || !equal(got, b) {
				t.Errorf("valid %d, %s: %v, %+v", i, c.name, ok, got)
			}
		}
	}
}

// P12.2: no proper prefix of an encoding is one, and nothing with more bytes behind it.
func TestPrefixes(t *testing.T) {
	for i, a := range valid() {
		s := act.Bytes(a)
		for size := range len(s) {
			refuses(t, s[:size], "valid", i, "prefix of", size)
		}
		for _, more := range []string{"\x00", "\x01", "x", "\x80", "\xff", "\x00\x00", s, act.Core(a)} {
			refuses(t, s+more, "valid", i, "followed by", more)
			refuses(t, more+s, "valid", i, "behind", more)
		}
		refuses(t, act.Core(a), "valid", i, "the core")
		refuses(t, act.Core(a)+"\x00", "valid", i, "the core and half a signature")
		refuses(t, s[1:], "valid", i, "without the first byte")
	}
}

// P12.2: encodings of which one byte was changed.
func TestBytesChanged(t *testing.T) {
	for i, a := range valid() {
		s := act.Bytes(a)
		step := 1 + len(s)/150
		for at := 0; at < len(s); at += step {
			for _, x := range []byte{1, 2, 4, 8, 16, 32, 64, 128, 255} {
				b := []byte(s)
				b[at] ^= x
				reads(t, string(b), "valid", i, "byte", at, "changed by", x)
			}
			reads(t, s[:at]+s[at+1:], "valid", i, "without byte", at)
			reads(t, s[:at]+"\x00"+s[at:], "valid", i, "a zero at", at)
		}
	}
	for _, kind := range []int{api.AcBegin, api.AcGrant} {
		s := act.Bytes(onePerKind()[kind])
		for at := range len(s) {
			for x := range 256 {
				reads(t, s[:at]+string([]byte{byte(x)})+s[at+1:], "kind", kind, "byte", at, "is", x)
			}
		}
	}
}

// longer returns the encoding of a number with superfluous zeros.
func longer(number, zeros int) string {
	s := []byte(pieces{{isNumber: true, number: number}}.join())
	for range zeros {
		s[len(s)-1] |= 128
		s = append(s, 0)
	}
	return string(s)
}

// eachNumber visits the numbers of the encodings of valid activities, but for the longest ones: each as one of the pieces, with their activity's index among the valid ones.
func eachNumber(visit func(i, at int, l pieces)) {
	for i, a := range valid() {
		l := allPieces(a)
		for at, x := range l {
			if x.isNumber && len(l) < 100 {
				visit(i, at, slices.Clone(l))
			}
		}
	}
}

// P12.2: a number that is written in another way than layer 2 writes it, or that is no int, is not read.
func TestOtherNumbers(t *testing.T) {
	eachNumber(func(i, at int, l pieces) {
		before, behind := l[:at].join(), l[at+1:].join()
		for zeros := 1; zeros < 10; zeros++ {
			refuses(t, before+longer(l[at].number, zeros)+behind, "valid", i, "piece", at, "with", zeros, "zeros")
		}
		for _, other := range []string{"", "\x80", strings.Repeat("\xff", 8) + "\x7f", strings.Repeat("\xff", 9) + "\x00", strings.Repeat("\xff", 9) + "\x01", strings.Repeat("\x80", 9) + "\x01", strings.Repeat("\xff", 30)} {
			reads(t, before+other+behind, "valid", i, "piece", at, "is", other)
		}
	})
}

// P12.2: each number of an encoding replaced by others, among them counts that are far greater than what follows.
func TestNumbersReplaced(t *testing.T) {
	values := []int{0, 1, 2, 3, 15, 16, 17, 24, 31, 32, 33, 63, 64, 65, 500, 501, most, most + 1, maxTime, maxTime + 1, n - 1, n, p, math.MaxInt - 1, math.MaxInt}
	eachNumber(func(i, at int, l pieces) {
		for _, v := range append(values, l[at].number-1, l[at].number+1) {
			other := slices.Clone(l)
			other[at].number = v
			reads(t, other.join(), "valid", i, "piece", at, "is", v)
		}
	})
}

// P12.2: what does not open as an activity, and strings of all sorts, are not read.
func TestOtherStrings(t *testing.T) {
	for i, a := range valid() {
		s := strings.TrimPrefix(act.Bytes(a), "\x03act")
		for _, opening := range []string{"", "\x00", "act", "\x03Act", "\x03acu", "\x04act", "\x02ac", "\x02act", "\x04actx", "\x03key", "\x05claim", "\x03act\x03act", "\x83\x00act"} {
			refuses(t, opening+s, "valid", i, "opens as", opening)
		}
	}
	for _, s := range []string{"", "act", "\x03act", "\x03", "x", strings.Repeat("\x00", 1<<20), "\x03act" + strings.Repeat("\x00", 1<<20), strings.Repeat("\xff", 1<<20), "\x03act" + strings.Repeat("\x01", 1<<20)} {
		refuses(t, s)
	}
	r := rand.New(rand.NewSource(13))
	for range 20000 {
		b := make([]byte, r.Intn(200))
		for i := range b {
			b[i] = byte(r.Intn(256) >> r.Intn(9))
		}
		reads(t, string(b))
		reads(t, "\x03act"+string(b))
	}
}

// P12.2: encodings with too many ids or wraps are not read.
func TestTooMany(t *testing.T) {
	for _, count := range []int{62, 63, 64, 65, 66, 127, 128, 129, 130, 1000, 20000} {
		for _, more := range []int{-65, -64, -1, 0, 1, 64, 65} {
			if count+more < 0 {
				continue
			}
			list := slices.Repeat([]api.Wrap{wrap1}, count+more)
			s := allPieces(wrapped(api.AcGrant, count, list)).join()
			got, ok := act.Read(s)
			if want := count <= 64 && more == 0; ok != want || ok && !equal(got, wrapped(api.AcGrant, count, list)) {
				t.Errorf("%d ids, %d wraps: %v", count, len(list), ok)
			}
		}
	}
}

// P12.2: an encoding in which the number of wraps is not that of the wraps that follow is not read.
func TestWrongCounts(t *testing.T) {
	for _, count := range []int{0, 1, 2, 63, 64, 65, 66, 130} {
		l := allPieces(wrapped(api.AcGrant, min(count, 64), slices.Repeat([]api.Wrap{wrap1}, count)))
		// Behind the number are eight pieces for each wrap, N and M, and the signature.
		at := len(l) - 4 - 8*count - 1
		for _, claim := range []int{0, 1, 2, 62, 63, 64, 65, 66, 127, 128, 129, 130, 1000, 1 << 20, 1 << 40, math.MaxInt} {
			l[at].number = claim
			if claim != count || count > 64 {
				refuses(t, l.join(), count, "wraps, said to be", claim)
			}
			reads(t, l.join(), count, "wraps, said to be", claim)
		}
	}
}

// P12.5: Core, Bytes and Read change nothing that they are given and return memory of their own.
func TestBytesMemory(t *testing.T) {
	for i, a := range valid() {
		before := clone(a)
		core, all := act.Core(a), act.Bytes(a)
		one, ok := act.Read(all)
		two, also := act.Read(all)
		if !ok || !also || !equal(a, before) {
			t.Errorf("valid %d: %v, %v, %+v", i, ok, also, a)
		}
		for k := range one.To {
			one.To[k], a.To[k] = "x", "y"
		}
		for k := range one.Wraps {
			one.Wraps[k], a.Wraps[k] = api.Wrap{}, api.Wrap{To: 5}
		}
		if three, _ := act.Read(all); !equal(two, before) || !equal(three, before) || core != corePieces(before).join() || all != allPieces(before).join() {
			t.Errorf("valid %d: memory is shared", i)
		}
		_ = append(one.To, "x")
		_ = append(one.Wraps, wrap2)
		if !equal(two, before) {
			t.Errorf("valid %d: memory behind a list is shared", i)
		}
	}
}

// P12.6: different valid activities have different encodings, and those that differ in more than their signatures different cores.
func TestDistinct(t *testing.T) {
	list := valid()
	for _, a := range valid() {
		for _, c := range changes() {
			if b := with(a, c); isRight(b) {
				list = append(list, b)
			}
		}
	}
	cores, all := map[string]api.Act{}, map[string]api.Act{}
	for _, a := range list {
		unsigned := a
		unsigned.Sig = api.Sig{}
		if other, ok := cores[act.Core(a)]; ok && !equal(other, unsigned) {
			t.Errorf("%+v and %+v have one core", other, unsigned)
		}
		if other, ok := all[act.Bytes(a)]; ok && !equal(other, a) {
			t.Errorf("%+v and %+v have one encoding", other, a)
		}
		cores[act.Core(a)], all[act.Bytes(a)] = unsigned, a
	}
	var distinct []api.Act
	for _, a := range all {
		distinct = append(distinct, a)
	}
	for i, a := range distinct {
		for _, b := range distinct[:i] {
			if act.Same(a, b) {
				t.Fatalf("%+v has two encodings", a)
			}
		}
	}
	if len(distinct) < 1000 {
		t.Error("only", len(distinct), "encodings")
	}
}
