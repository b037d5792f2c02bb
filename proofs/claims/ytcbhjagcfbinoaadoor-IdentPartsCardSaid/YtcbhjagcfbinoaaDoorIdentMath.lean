/-
  Layer 11 (ident) in plain Lean: ids, names, handles, lists of ids. No program.
-/
import Derived.Below
import Derived.Lib.ItoaLen
namespace Go.Proofs.YtcbhjagcfbinoaaDoor
namespace Idt
abbrev Str := List UInt8
def low (c : UInt8) : Bool := decide (97 ≤ c) && decide (c ≤ 122)
def dig (c : UInt8) : Bool := decide (48 ≤ c) && decide (c ≤ 57)
def hexc (c : UInt8) : Bool := dig c || (decide (97 ≤ c) && decide (c ≤ 102))
def later (c : UInt8) : Bool := low c || (dig c || c == 95)
def isId (s : Str) : Bool := s.all hexc && decide (s.length = 16)
/-- Whether every byte may stand where it stands. -/
def shaped : Str → Bool
  | [] => true
  | c :: t => low c && t.all later
def isName (s : Str) : Bool := shaped s && (decide (1 ≤ s.length) && decide (s.length ≤ 24))
/-- s is the handle of the name a and the server n. -/
structure Hd (s a : Str) (n : Int) : Prop where
  name : isName a = true
  lo : 0 ≤ n
  hi : n ≤ 19
  eq : s = a ++ 64 :: Lib.itoa n
def handle (a : Str) (n : Int) : Str := if isName a = true ∧ 0 ≤ n ∧ n ≤ 19 then a ++ 64 :: Lib.itoa n else []

theorem low_later {c : UInt8} (h : low c = true) : later c = true := by simp [later, h]
theorem shaped_later {s : Str} (h : shaped s = true) : s.all later = true := by
  cases s with
  | nil => rfl
  | cons c t =>
    simp only [shaped, Bool.and_eq_true] at h
    simp only [List.all_cons, Bool.and_eq_true]
    exact ⟨low_later h.1, h.2⟩
theorem name_at {a : Str} (h : isName a = true) : ∀ c ∈ a, c ≠ 64 := by
  intro c hc he
  simp only [isName, Bool.and_eq_true] at h
  have := List.all_eq_true.1 (shaped_later h.1) c hc
  rw [he] at this
  exact absurd this (by decide)
theorem name_pos {a : Str} (h : isName a = true) : 1 ≤ a.length ∧ a.length ≤ 24 := by
  simp only [isName, Bool.and_eq_true, decide_eq_true_eq] at h
  exact h.2
/-- The part before the first '@' is settled. -/
theorem split_one : ∀ {a b x y : Str}, (∀ c ∈ a, c ≠ 64) → (∀ c ∈ b, c ≠ 64) → a ++ 64 :: x = b ++ 64 :: y → a = b ∧ x = y
  | [], [], x, y, _, _, h => by
    simp only [List.nil_append, List.cons.injEq] at h
    exact ⟨rfl, h.2⟩
  | [], d :: b, x, y, _, hb, h => by
    simp only [List.nil_append, List.cons_append, List.cons.injEq] at h
    exact absurd h.1.symm (hb d List.mem_cons_self)
  | c :: a, [], x, y, ha, _, h => by
    simp only [List.nil_append, List.cons_append, List.cons.injEq] at h
    exact absurd h.1 (ha c List.mem_cons_self)
  | c :: a, d :: b, x, y, ha, hb, h => by
    simp only [List.cons_append, List.cons.injEq] at h
    obtain ⟨h1, h2⟩ := split_one (fun z hz => ha z (List.mem_cons_of_mem _ hz)) (fun z hz => hb z (List.mem_cons_of_mem _ hz)) h.2
    exact ⟨by rw [h.1, h1], h2⟩
/-- No two servers have the same text. -/
theorem itoa_apart : ∀ m : Nat, m < 20 → ∀ n : Nat, n < 20 → Lib.itoa (m : Int) = Lib.itoa (n : Int) → m = n := by decide +kernel
theorem Hd.uniq {s a b : Str} {m n : Int} (h : Hd s a m) (h' : Hd s b n) : a = b ∧ m = n := by
  obtain ⟨h1, h2⟩ := split_one (name_at h.name) (name_at h'.name) (h.eq.symm.trans h'.eq)
  refine ⟨h1, ?_⟩
  have e1 : ((m.toNat : Nat) : Int) = m := Int.toNat_of_nonneg h.lo
  have e2 : ((n.toNat : Nat) : Int) = n := Int.toNat_of_nonneg h'.lo
  have := itoa_apart m.toNat (by have := h.hi; omega) n.toNat (by have := h'.hi; omega) (by rw [e1, e2]; exact h2)
  omega
theorem handle_hd {a : Str} {n : Int} (h1 : isName a = true) (h2 : 0 ≤ n) (h3 : n ≤ 19) : Hd (handle a n) a n := ⟨h1, h2, h3, if_pos ⟨h1, h2, h3⟩⟩
theorem Hd.handle {s a : Str} {n : Int} (h : Hd s a n) : Idt.handle a n = s := by
  unfold Idt.handle
  rw [if_pos ⟨h.name, h.lo, h.hi⟩]
  exact h.eq.symm
theorem no_hd_nil {a : Str} {n : Int} (h : Hd [] a n) : False := by
  have := congrArg List.length h.eq
  simp at this
/-- A name is not a handle. -/
theorem name_no_hd {s a : Str} {n : Int} (hs : isName s = true) (h : Hd s a n) : False :=
  name_at hs 64 (by rw [h.eq]; simp) rfl
theorem handle_no_name (a : Str) (n : Int) : isName (handle a n) = false := by
  cases h : isName (handle a n) with
  | false => rfl
  | true =>
    exfalso
    unfold handle at h
    split at h
    · rename_i hh
      exact name_no_hd h (handle_hd hh.1 hh.2.1 hh.2.2 |> fun k => by rw [k.handle] at k; unfold handle at k; rw [if_pos hh] at k; exact k)
    · exact absurd h (by decide)
/-- Every prefix of a name that is not empty is a name. -/
theorem shaped_take {s : Str} (h : shaped s = true) (k : Nat) : shaped (s.take k) = true := by
  cases s with
  | nil => rw [List.take_nil]; rfl
  | cons c t =>
    cases k with
    | zero => rfl
    | succ k =>
      simp only [shaped, Bool.and_eq_true, List.take_succ_cons] at h ⊢
      exact ⟨h.1, List.all_eq_true.2 fun x hx => List.all_eq_true.1 h.2 x (List.mem_of_mem_take hx)⟩
theorem name_take {s : Str} (h : isName s = true) {k : Nat} (h1 : 1 ≤ k) (h2 : k ≤ s.length) : isName (s.take k) = true := by
  have hp := name_pos h
  simp only [isName, Bool.and_eq_true, decide_eq_true_eq] at h ⊢
  exact ⟨shaped_take h.1 k, by rw [List.length_take]; omega, by rw [List.length_take]; omega⟩
/-! ### Lists of ids -/
open Go.Op (bytesLess)
theorem less_irrefl : ∀ x : Str, bytesLess x x = false
  | [] => rfl
  | a :: x => by
    have := less_irrefl x
    simp [bytesLess, this, UInt8.lt_irrefl]
theorem less_trans : ∀ {x y z : Str}, bytesLess x y = true → bytesLess y z = true → bytesLess x z = true
  | _, _, [], _, h => by simp [bytesLess] at h
  | _, [], _ :: _, h, _ => by simp [bytesLess] at h
  | [], _ :: _, _ :: _, _, _ => rfl
  | a :: x, b :: y, c :: z, h1, h2 => by
    simp only [bytesLess, Bool.or_eq_true, Bool.and_eq_true, decide_eq_true_eq, beq_iff_eq] at h1 h2 ⊢
    rcases h1 with h1 | ⟨rfl, h1⟩
    · rcases h2 with h2 | ⟨rfl, h2⟩
      · exact .inl (UInt8.lt_trans h1 h2)
      · exact .inl h1
    · rcases h2 with h2 | ⟨rfl, h2⟩
      · exact .inl h2
      · exact .inr ⟨rfl, less_trans h1 h2⟩
def rising : List Str → Bool
  | [] => true
  | [_] => true
  | a :: b :: t => bytesLess a b && rising (b :: t)
def ids (l : List Str) : Bool := l.all isId && (rising l && decide (l.length ≤ 64))
def Up (l : List Str) : Prop := l.Pairwise fun a b => bytesLess a b = true
theorem rising_up : ∀ l : List Str, rising l = true ↔ Up l
  | [] => by simp [rising, Up]
  | [a] => by simp [rising, Up]
  | a :: b :: t => by
    have ih := rising_up (b :: t)
    unfold Up at *
    simp only [rising, Bool.and_eq_true]
    rw [ih]
    constructor
    · rintro ⟨h1, h2⟩
      refine List.Pairwise.cons (fun x hx => ?_) h2
      rcases List.mem_cons.1 hx with rfl | hx
      · exact h1
      · exact less_trans h1 (List.rel_of_pairwise_cons h2 hx)
    · intro h
      exact ⟨List.rel_of_pairwise_cons h List.mem_cons_self, h.of_cons⟩
structure Good (l : List Str) : Prop where
  each : ∀ x ∈ l, isId x = true
  up : Up l
  len : l.length ≤ 64
theorem ids_iff {l : List Str} : ids l = true ↔ Good l := by
  unfold ids
  rw [Bool.and_eq_true, Bool.and_eq_true, rising_up, List.all_eq_true, decide_eq_true_eq]
  exact ⟨fun h => ⟨h.1, h.2.1, h.2.2⟩, fun h => ⟨h.each, h.up, h.len⟩⟩
theorem ids_no {l : List Str} (h : ¬ Good l) : ids l = false := by
  cases hh : ids l with
  | false => rfl
  | true => exact absurd (ids_iff.1 hh) h
theorem Good.part {l l' : List Str} (h : Good l) (hs : l'.Sublist l) : Good l' :=
  ⟨fun x hx => h.each x (hs.subset hx), h.up.sublist hs, Nat.le_trans hs.length_le h.len⟩
theorem ids_less {l : List Str} (h : ids l = true) (i : Nat) : ids (l.take i ++ l.drop (i + 1)) = true := by
  refine ids_iff.2 ((ids_iff.1 h).part ?_)
  have h1 : (l.drop (i + 1)).Sublist (l.drop i) := by
    rw [← List.drop_drop (i := 1) (j := i) (l := l)] <;> exact List.drop_sublist _ _
  have h2 := (List.Sublist.refl (l.take i)).append h1
  rwa [List.take_append_drop] at h2
theorem ids_more (l : List Str) {i : Nat} (hi : i < l.length) : ids (l.take i ++ [l[i]] ++ l.drop i) = false := by
  refine ids_no fun h => ?_
  have hu := h.up
  unfold Up at hu
  rw [List.append_assoc] at hu
  have h1 := (List.pairwise_append.1 hu).2.1
  rw [List.drop_eq_getElem_cons hi] at h1
  have : bytesLess l[i] l[i] = true := List.rel_of_pairwise_cons (l := l[i] :: l.drop (i + 1)) h1 List.mem_cons_self
  rw [less_irrefl] at this
  cases this
theorem up_at {l : List Str} (h : Up l) {i k : Nat} (hik : i < k) (hk : k < l.length) : bytesLess (l[i]'(by omega)) l[k] = true := List.pairwise_iff_getElem.1 h i k (by omega) hk hik
theorem ids_other {l : List Str} (h : ids l = true) {i k : Nat} (hi : i < l.length) (hk : k < l.length) : ids ((l.set i l[k]).set k l[i]) = decide (i = k) := by
  by_cases e : i = k
  · subst e
    rw [decide_eq_true rfl]
    have : (l.set i l[i]).set i l[i] = l := by simp
    rw [this]
    exact h
  · rw [decide_eq_false e]
    refine ids_no fun hg => ?_
    have hu := (ids_iff.1 h).up
    have hv := hg.up
    rcases Nat.lt_or_gt_of_ne e with hl | hl
    · have h1 := up_at hu hl hk
      have h2 := up_at hv hl (by simpa using hk)
      rw [List.getElem_set_self, List.getElem_set_ne (by omega), List.getElem_set_self] at h2
      have := less_trans h1 h2
      rw [less_irrefl] at this
      cases this
    · have h1 := up_at hu hl hi
      have h2 := up_at hv hl (by simpa using hi)
      rw [List.getElem_set_self, List.getElem_set_ne (by omega), List.getElem_set_self] at h2
      have := less_trans h1 h2
      rw [less_irrefl] at this
      cases this
/-- The rows of the text of a digest's first bytes. -/
theorem hex_id {x : Str} (h : x.all hexc = true) (hl : 16 ≤ x.length) : isId (x.take 16) = true := by
  simp only [isId, Bool.and_eq_true, decide_eq_true_eq]
  exact ⟨List.all_eq_true.2 fun c hc => List.all_eq_true.1 h c (List.mem_of_mem_take hc), by rw [List.length_take]; omega⟩
end Idt
end Go.Proofs.YtcbhjagcfbinoaaDoor
