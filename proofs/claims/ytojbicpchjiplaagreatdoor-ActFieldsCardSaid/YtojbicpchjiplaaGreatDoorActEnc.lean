/-
  Layer 12 in plain Lean: an activity is read from its bytes, and from them alone.
-/
import Derived.Test.YtojbicpchjiplaaGreatDoorActFits
namespace Go.Proofs.YtojbicpchjiplaaGreatDoor
namespace Ax
open S11.Idt (Str isId isName ids)
open S2.Cd
def okW (w : Wr) : Prop := okZ w.to ∧ okZ w.eph ∧ okB w.box
def decW (l : Str) : Option (Wr × Str) := ((decZ l).bind fun p => (((decZ p.2).bind fun q => (((decT q.2).bind fun p => (((decT p.2).bind fun q => (decT q.2).map fun t => ((q.1, t.1), t.2))).map fun q => ((p.1, q.1), q.2)).map fun p => (Bx.mk p.1.1 p.1.2.1 p.1.2.2, p.2)).map fun t => ((q.1, t.1), t.2))).map fun q => ((p.1, q.1), q.2)).map fun p => (⟨p.1.1, p.1.2.1, p.1.2.2⟩, p.2)
theorem codecW : Codec wrB decW okW :=
  codec_map (codec_seq codecZ (codec_seq codecZ codecB)) (fun p => Wr.mk p.1 p.2.1 p.2.2) (fun w => (w.to, w.eph, w.box)) okW (fun _ h => ⟨h, rfl⟩) (fun _ h => ⟨h, rfl⟩)
theorem wrB_ne (w : Wr) (_ : okW w) : wrB w ≠ [] := by
  unfold wrB bxB
  intro h
  have := (List.append_eq_nil_iff.1 (List.append_eq_nil_iff.1 (List.append_eq_nil_iff.1 h).2).2).1
  exact encT_ne _ this
theorem codecWs : Codec (encL wrB) (decL decW) (okL okW) := codecL codecW wrB_ne
structure OkA (a : Ac) : Prop where
  author : okT a.author
  seq : okZ a.seq
  prev : okT a.prev
  kind : okZ a.kind
  time : okZ a.time
  object : okT a.object
  target : okT a.target
  scope : okZ a.scope
  group : okT a.group
  to : okL okT a.to
  text : okT a.text
  body : okB a.body
  epoch : okZ a.epoch
  wraps : okL okW a.wraps
  n : okZ a.n
  m : okZ a.m
theorem bxOk_of {b : Bx} (h : bxOk b = true ∨ b = bx0) : b.nonce.length ≤ 32 ∧ b.data.length ≤ 500 ∧ b.tag.length ≤ 16 := by
  rcases h with h | rfl
  · simp only [bxOk, Bool.and_eq_true, decide_eq_true_eq] at h
    omega
  · simp [bx0]
theorem okB_of {b : Bx} (h : bxOk b = true ∨ b = bx0) : okB b := by
  have := bxOk_of h
  unfold okB okT okN
  omega
theorem okW_of {w : Wr} (h : wrOk w = true) : okW w := by
  simp only [wrOk, Bool.and_eq_true] at h
  have h1 := pub_of h.1
  have h2 := pub_of h.2.1
  exact ⟨by unfold okZ; omega, by unfold okZ; omega, okB_of (.inl h.2.2)⟩
theorem ok_of {a : Ac} (h : Lim a) : OkA a := by
  have hi := S11.Idt.ids_iff.1 h.to
  have he : 0 ≤ a.epoch ∧ a.epoch ≤ 1073741824 := by simpa only [epOk, Bool.and_eq_true, decide_eq_true_eq] using h.epoch
  have h1 := h.author
  have h2 := h.seq
  have h3 := h.prev
  have h4 := h.kind
  have h5 := h.time
  have h6 := h.object
  have h7 := h.target
  have h8 := h.scope
  have h9 := h.group
  have h10 := h.text
  have h11 := h.wraps
  have h12 := h.n
  have h13 := h.m
  have h14 := hi.len
  refine ⟨?_, ?_, ?_, ?_, ?_, ?_, ?_, ?_, ?_, ⟨?_, fun s hs => ?_⟩, ?_, okB_of h.body, ?_, ⟨?_, fun w hw => okW_of (List.all_eq_true.1 h11.1 w hw)⟩, ?_, ?_⟩
  all_goals (try unfold okT) <;> (try unfold okN) <;> (try unfold okZ) <;> first | omega | (have := id_len (hi.each s hs); omega)
theorem core_split {a b : Ac} {x y : Str} (ha : OkA a) (hb : OkA b) (e : coreB a ++ x = coreB b ++ y) : a = b ∧ x = y := by
  simp only [coreB, List.append_assoc] at e
  replace e := List.append_cancel_left e
  obtain ⟨e1, e⟩ := Codec_split codecT ha.author hb.author e
  obtain ⟨e2, e⟩ := Codec_split codecZ ha.seq hb.seq e
  obtain ⟨e3, e⟩ := Codec_split codecT ha.prev hb.prev e
  obtain ⟨e4, e⟩ := Codec_split codecZ ha.kind hb.kind e
  obtain ⟨e5, e⟩ := Codec_split codecZ ha.time hb.time e
  obtain ⟨e6, e⟩ := Codec_split codecT ha.object hb.object e
  obtain ⟨e7, e⟩ := Codec_split codecT ha.target hb.target e
  obtain ⟨e8, e⟩ := Codec_split codecZ ha.scope hb.scope e
  obtain ⟨e9, e⟩ := Codec_split codecT ha.group hb.group e
  obtain ⟨e10, e⟩ := Codec_split codecTs ha.to hb.to e
  obtain ⟨e11, e⟩ := Codec_split codecT ha.text hb.text e
  obtain ⟨e12, e⟩ := Codec_split codecB ha.body hb.body e
  obtain ⟨e13, e⟩ := Codec_split codecZ ha.epoch hb.epoch e
  obtain ⟨e14, e⟩ := Codec_split codecWs ha.wraps hb.wraps e
  obtain ⟨e15, e⟩ := Codec_split codecZ ha.n hb.n e
  obtain ⟨e16, e⟩ := Codec_split codecZ ha.m hb.m e
  refine ⟨?_, e⟩
  cases a
  cases b
  simp only at e1 e2 e3 e4 e5 e6 e7 e8 e9 e10 e11 e12 e13 e14 e15 e16
  subst e1 e2 e3 e4 e5 e6 e7 e8 e9 e10 e11 e12 e13 e14 e15 e16
  rfl
theorem valid_good {a : Ac} {e s : Int} (h : valid a e s = true) : good a = true := by
  unfold valid at h
  exact (Bool.and_eq_true _ _ ▸ h).2
theorem valid_sig {a : Ac} {e s : Int} (h : valid a e s = true) : (0 ≤ e ∧ e < 2305843009213693950) ∧ 0 ≤ s ∧ s < 2305843009213693950 := by
  simp only [valid, sigOk, Bool.and_eq_true, decide_eq_true_eq] at h
  exact h.1
theorem valid_ok {a : Ac} {e s : Int} (h : valid a e s = true) : OkA a := ok_of (lim_of (valid_good h))
theorem bytes_split {a b : Ac} {e s e' s' : Int} {x y : Str} (ha : valid a e s = true) (hb : valid b e' s' = true) (h : bytesB a e s ++ x = bytesB b e' s' ++ y) : a = b ∧ e = e' ∧ s = s' ∧ x = y := by
  have h1 := valid_sig ha
  have h2 := valid_sig hb
  simp only [bytesB, List.append_assoc] at h
  obtain ⟨e1, h⟩ := core_split (valid_ok ha) (valid_ok hb) h
  obtain ⟨e2, h⟩ := Codec_split codecZ (by unfold okZ; omega) (by unfold okZ; omega) h
  obtain ⟨e3, h⟩ := Codec_split codecZ (by unfold okZ; omega) (by unfold okZ; omega) h
  exact ⟨e1, e2, e3, h⟩
theorem bytes_inj {a b : Ac} {e s e' s' : Int} (ha : valid a e s = true) (hb : valid b e' s' = true) (h : bytesB a e s = bytesB b e' s') : a = b ∧ e = e' ∧ s = s' := by
  have := bytes_split (x := []) (y := []) ha hb (by rw [h])
  exact ⟨this.1, this.2.1, this.2.2.1⟩
theorem core_inj {a b : Ac} {e s e' s' : Int} (ha : valid a e s = true) (hb : valid b e' s' = true) (h : coreB a = coreB b) : a = b :=
  (core_split (x := []) (y := []) (valid_ok ha) (valid_ok hb) (by rw [h])).1
theorem bytes_more {a b : Ac} {e s e' s' : Int} (ha : valid a e s = true) (hb : valid b e' s' = true) (x : Str) (hx : x ≠ []) : bytesB b e' s' ≠ bytesB a e s ++ x := fun h => by
  have := bytes_split (x := x) (y := []) ha hb (by rw [List.append_nil, h])
  exact hx this.2.2.2
theorem bytes_less {a b : Ac} {e s e' s' : Int} (ha : valid a e s = true) (hb : valid b e' s' = true) {k : Nat} (hk : k < (bytesB a e s).length) : bytesB b e' s' ≠ (bytesB a e s).take k := fun h => by
  have h1 : bytesB a e s = bytesB b e' s' ++ (bytesB a e s).drop k := by rw [h, List.take_append_drop]
  refine bytes_more hb ha ((bytesB a e s).drop k) ?_ h1
  intro h2
  have := congrArg List.length h2
  simp at this
  omega
theorem actT_len : actT.length = 4 := by decide +kernel
theorem bytes_pos (a : Ac) (e s : Int) : 4 ≤ (bytesB a e s).length := by
  simp only [bytesB, coreB, List.length_append, actT_len]
  omega
theorem core_pos (a : Ac) : 4 ≤ (coreB a).length := by
  simp only [coreB, List.length_append, actT_len]
  omega
/-- What Read answers. -/
def IsRead (s : Str) (a : Ac) (e g : Int) (ok : Bool) : Prop := (ok = true ∧ valid a e g = true ∧ bytesB a e g = s) ∨ (ok = false ∧ a = ac0 ∧ e = 0 ∧ g = 0 ∧ ∀ b e' g', valid b e' g' = true → bytesB b e' g' ≠ s)
theorem read_uniq {s : Str} {a b : Ac} {e g e' g' : Int} {x y : Bool} (h : IsRead s a e g x) (h' : IsRead s b e' g' y) : a = b ∧ e = e' ∧ g = g' ∧ x = y := by
  rcases h with ⟨rfl, h1, h2⟩ | ⟨rfl, rfl, rfl, rfl, h1⟩
  · rcases h' with ⟨rfl, h3, h4⟩ | ⟨rfl, rfl, rfl, rfl, h3⟩
    · obtain ⟨i1, i2, i3⟩ := bytes_inj h1 h3 (h2.trans h4.symm)
      exact ⟨i1, i2, i3, rfl⟩
    · exact absurd h2 (h3 _ _ _ h1)
  · rcases h' with ⟨rfl, h3, h4⟩ | ⟨rfl, rfl, rfl, rfl, h3⟩
    · exact absurd h4 (h1 _ _ _ h3)
    · exact ⟨rfl, rfl, rfl, rfl⟩
theorem read_back {a : Ac} {e g : Int} (h : valid a e g = true) : IsRead (bytesB a e g) a e g true := .inl ⟨rfl, h, rfl⟩
theorem read_more {a : Ac} {e g : Int} (h : valid a e g = true) (x : Str) (hx : x ≠ []) : IsRead (bytesB a e g ++ x) ac0 0 0 false := .inr ⟨rfl, rfl, rfl, rfl, fun _ _ _ hb => bytes_more h hb x hx⟩
theorem read_less {a : Ac} {e g : Int} (h : valid a e g = true) {k : Nat} (hk : k < (bytesB a e g).length) : IsRead ((bytesB a e g).take k) ac0 0 0 false := .inr ⟨rfl, rfl, rfl, rfl, fun _ _ _ hb => bytes_less h hb hk⟩
end Ax
end Go.Proofs.YtojbicpchjiplaaGreatDoor
