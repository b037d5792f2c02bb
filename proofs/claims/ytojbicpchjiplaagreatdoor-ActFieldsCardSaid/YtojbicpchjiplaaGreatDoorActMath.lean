/-
  Layer 12 (act) in plain Lean: which activities are valid, how they are written. No program.
-/
import Derived.Test.YtojbicpchjiplaaGreatDoorIdentMath
import Derived.Test.YtojbicpchjiplaaGreatDoorCodeSem
namespace Go.Proofs.YtojbicpchjiplaaGreatDoor
namespace Ax
open S11.Idt (Str isId isName ids)
open S2.Cd
structure Bx where
  nonce : Str
  data : Str
  tag : Str
structure Wr where
  to : Int
  eph : Int
  box : Bx
/-- An activity without its signature. -/
structure Ac where
  author : Str
  seq : Int
  prev : Str
  kind : Int
  time : Int
  object : Str
  target : Str
  scope : Int
  group : Str
  to : List Str
  text : Str
  body : Bx
  epoch : Int
  wraps : List Wr
  n : Int
  m : Int
def bx0 : Bx := ⟨[], [], []⟩
def ac0 : Ac := ⟨[], 0, [], 0, 0, [], [], 0, [], [], [], bx0, 0, [], 0, 0⟩
def pub (n : Int) : Bool := decide (1 ≤ n) && decide (n < 2305843009213693951)
def bxOk (b : Bx) : Bool := decide (b.nonce.length = 32) && (decide (b.tag.length = 16) && decide (b.data.length ≤ 500))
def bxZ (b : Bx) : Bool := b.nonce.isEmpty && (b.data.isEmpty && b.tag.isEmpty)
def wrOk (w : Wr) : Bool := pub w.to && (pub w.eph && bxOk w.box)
def wrapped (a : Ac) : Bool := a.wraps.all wrOk && decide (a.wraps.length = a.to.length)
def grOk (a : Ac) : Bool := if a.scope = 2 then isName a.group else a.group.isEmpty
def epOk (n : Int) : Bool := decide (0 ≤ n) && decide (n ≤ 1073741824)
def audOk (a : Ac) : Bool :=
  ids a.to && (grOk a &&
    (if a.scope = 0 then decide (a.epoch = 0) && (decide (a.text.length ≤ 500) && bxZ a.body)
     else if a.scope = 3 then epOk a.epoch && (a.text.isEmpty && bxOk a.body)
     else if a.scope = 1 ∨ a.scope = 2 then epOk a.epoch && (a.text.isEmpty && (bxOk a.body && a.to.isEmpty))
     else false))
/-- Whether all fields that depend on the kind are zero. -/
def zer (a : Ac) : Bool :=
  a.object.isEmpty && (a.target.isEmpty && (decide (a.scope = 0) && (a.group.isEmpty && (a.to.isEmpty && (a.text.isEmpty && (bxZ a.body && (decide (a.epoch = 0) && (a.wraps.isEmpty && (decide (a.n = 0) && decide (a.m = 0))))))))))
def bare (a : Ac) : Ac := { a with scope := 0, group := [], to := [], text := [], body := bx0, epoch := 0 }
def dig32 (s : Str) : Bool := decide (s.length = 32)
def home (a : Ac) : Bool := pub a.n && (decide (0 ≤ a.m) && decide (a.m < 20))
def labOk (a : Ac) : Bool := isName a.text && (if a.object.isEmpty then isId a.target else dig32 a.object && a.target.isEmpty)
/-- The fields of the kind are as the table says, the others are zero. -/
def fits (a : Ac) : Bool :=
  if a.kind = 0 then (isName a.text && home a) && zer { a with text := [], n := 0, m := 0 }
  else if a.kind = 18 then home a && zer { a with n := 0, m := 0 }
  else if a.kind = 1 then audOk a && zer (bare a)
  else if a.kind = 2 ∨ a.kind = 3 ∨ a.kind = 14 then (audOk a && dig32 a.object) && zer { bare a with object := [] }
  else if a.kind = 4 ∨ a.kind = 5 ∨ a.kind = 6 ∨ a.kind = 13 ∨ a.kind = 20 then dig32 a.object && zer { a with object := [] }
  else if 7 ≤ a.kind ∧ a.kind ≤ 11 then isId a.target && zer { a with target := [] }
  else if a.kind = 12 ∨ a.kind = 21 then (dig32 a.object && decide (a.text.length ≤ 500)) && zer { a with object := [], text := [] }
  else if a.kind = 15 then (ids a.to && isName a.group) && zer { a with group := [], to := [] }
  else if a.kind = 16 then (ids a.to && ((decide (1 ≤ a.scope) && decide (a.scope ≤ 3)) && (grOk a && (epOk a.epoch && wrapped a)))) && zer { a with scope := 0, group := [], to := [], epoch := 0, wraps := [] }
  else if a.kind = 17 then labOk a && zer { a with text := [], object := [], target := [] }
  else if a.kind = 19 then (ids a.to && (!a.to.isEmpty && (wrapped a && ((decide (1 ≤ a.n) && decide (a.n ≤ a.to.length)) && pub a.m)))) && zer { a with to := [], wraps := [], n := 0, m := 0 }
  else if a.kind = 22 then (dig32 a.object && (decide (0 ≤ a.n) && decide (a.n ≤ 1))) && zer { a with object := [], n := 0 }
  else if a.kind = 23 then (isId a.target && (decide (a.text.length ≤ 500) && (decide (0 ≤ a.n) && decide (a.n ≤ 1099511627776)))) && zer { a with target := [], text := [], n := 0 }
  else false
def seqOk (a : Ac) : Bool := if a.seq = 0 then a.prev.isEmpty && decide (a.kind = 0) else dig32 a.prev && !decide (a.kind = 0)
/-- What does not depend on the kind. -/
def headOk (a : Ac) : Bool := isId a.author && ((decide (0 ≤ a.seq) && decide (a.seq ≤ 1073741824)) && (decide (0 ≤ a.time) && decide (a.time ≤ 1099511627776)))
def sigOk (e s : Int) : Bool := (decide (0 ≤ e) && decide (e < 2305843009213693950)) && (decide (0 ≤ s) && decide (s < 2305843009213693950))
/-- Valid, but for the signature. -/
def good (a : Ac) : Bool := headOk a && (seqOk a && fits a)
def valid (a : Ac) (e s : Int) : Bool := sigOk e s && good a
def posting (k : Int) : Bool := decide (1 ≤ k) && decide (k ≤ 3)

/-! ### Writing -/
def numB (n : Int) : Str := if n < 0 then [] else encN n.toNat
def bxB (b : Bx) : Str := encT b.nonce ++ (encT b.data ++ encT b.tag)
def wrB (w : Wr) : Str := numB w.to ++ (numB w.eph ++ bxB w.box)
/-- The text 'act', written. -/
def actT : Str := encT [97, 99, 116]
def coreB (a : Ac) : Str :=
  actT ++ (encT a.author ++ (numB a.seq ++ (encT a.prev ++ (numB a.kind ++ (numB a.time ++ (encT a.object ++ (encT a.target ++ (numB a.scope ++ (encT a.group ++ (encL encT a.to ++ (encT a.text ++ (bxB a.body ++ (numB a.epoch ++ (encL wrB a.wraps ++ (numB a.n ++ numB a.m)))))))))))))))
def bytesB (a : Ac) (e s : Int) : Str := coreB a ++ (numB e ++ numB s)
/-- Core and Bytes. -/
def core (a : Ac) (e s : Int) : Str := if valid a e s = true then coreB a else []
def bytes (a : Ac) (e s : Int) : Str := if valid a e s = true then bytesB a e s else []

/-! ### Codecs -/
theorem codec_seq {α β : Type} {ea : α → List UInt8} {da : List UInt8 → Option (α × List UInt8)} {oa : α → Prop} {eb : β → List UInt8} {db : List UInt8 → Option (β × List UInt8)} {ob : β → Prop}
    (ha : Codec ea da oa) (hb : Codec eb db ob) : Codec (fun p : α × β => ea p.1 ++ eb p.2) (fun l => (da l).bind fun p => (db p.2).map fun q => ((p.1, q.1), q.2)) (fun p => oa p.1 ∧ ob p.2) where
  back := fun p r h => by
    rw [List.append_assoc, ha.back _ _ h.1]
    simp only [Option.bind_some]
    rw [hb.back _ _ h.2]
    rfl
  again := fun l p r h => by
    rcases h1 : da l with _ | ⟨x, l1⟩
    · rw [h1] at h; cases h
    · rw [h1] at h
      simp only [Option.bind_some] at h
      rcases h2 : db l1 with _ | ⟨y, l2⟩
      · rw [h2] at h; cases h
      · rw [h2] at h
        simp only [Option.map_some, Option.some.injEq, Prod.mk.injEq] at h
        obtain ⟨rfl, rfl⟩ := h
        obtain ⟨e1, o1⟩ := ha.again _ _ _ h1
        obtain ⟨e2, o2⟩ := hb.again _ _ _ h2
        exact ⟨by rw [List.append_assoc, ← e2]; exact e1, o1, o2⟩
def okZ (n : Int) : Prop := 0 ≤ n ∧ n < 9223372036854775808
def decZ (l : Str) : Option (Int × Str) := (decN l).map fun p => ((p.1 : Int), p.2)
theorem codecZ : Codec numB decZ okZ where
  back := fun n r h => by
    unfold numB decZ
    rw [if_neg (by unfold okZ at h; omega), codecN.back _ _ (by unfold okN; unfold okZ at h; omega)]
    simp only [Option.map_some, Option.some.injEq, Prod.mk.injEq, and_true]
    unfold okZ at h
    omega
  again := fun l n r h => by
    unfold decZ at h
    rcases hd : decN l with _ | ⟨k, r'⟩
    · rw [hd] at h; cases h
    · rw [hd] at h
      simp only [Option.map_some, Option.some.injEq, Prod.mk.injEq] at h
      obtain ⟨rfl, rfl⟩ := h
      obtain ⟨e, ho⟩ := codecN.again _ _ _ hd
      unfold okN at ho
      refine ⟨?_, by unfold okZ; omega⟩
      unfold numB
      rw [if_neg (by omega), Int.toNat_natCast]
      exact e
def okB (b : Bx) : Prop := okT b.nonce ∧ okT b.data ∧ okT b.tag
theorem codecB : Codec bxB (fun l => ((decT l).bind fun p => (((decT p.2).bind fun q => (decT q.2).map fun t => ((q.1, t.1), t.2))).map fun q => ((p.1, q.1), q.2)).map fun p => (⟨p.1.1, p.1.2.1, p.1.2.2⟩, p.2)) okB :=
  codec_map (codec_seq codecT (codec_seq codecT codecT)) (fun p => Bx.mk p.1 p.2.1 p.2.2) (fun b => (b.nonce, b.data, b.tag)) okB (fun _ h => ⟨h, rfl⟩) (fun _ h => ⟨h, rfl⟩)
theorem Codec_split {α : Type} {enc : α → List UInt8} {dec : List UInt8 → Option (α × List UInt8)} {ok : α → Prop} (h : Codec enc dec ok) {a b : α} {x y : List UInt8} (ha : ok a) (hb : ok b) (e : enc a ++ x = enc b ++ y) : a = b ∧ x = y := by
  have h1 := h.back a x ha
  rw [e, h.back b y hb] at h1
  simp only [Option.some.injEq, Prod.mk.injEq] at h1
  exact ⟨h1.1.symm, h1.2.symm⟩
end Ax
end Go.Proofs.YtojbicpchjiplaaGreatDoor
