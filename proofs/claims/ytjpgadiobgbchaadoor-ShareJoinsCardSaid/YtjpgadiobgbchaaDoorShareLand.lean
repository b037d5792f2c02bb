/-
  Layer 7: what the package's functions are to hand back (proved of the landed code elsewhere).
-/
import Derived.Test.YtjpgadiobgbchaaDoorShareRef5
import Derived.Test.YtjpgadiobgbchaaDoorLawKit
import Derived.Deep.Slices
namespace Go.Proofs.YtjpgadiobgbchaaDoor
open Go.RowKit
namespace Sh
attribute [local go_sem] S3.B_size S3.B_app S3.B_list

/-- A slice of shares in a world. -/
structure Rw (w : World) (A : Option Addr) (l : List (Int × Int)) : Prop where
  row : S2.Row w w.heap.size A (Sc l)
theorem Rw.step {w w' : World} {A : Option Addr} {l : List (Int × Int)} (h : Rw w A l) (hb : Below w.heap.size w w') : Rw w' A l := ⟨(h.row.below hb).more hb.size⟩
theorem Rw.alloc {w : World} {A : Option Addr} {l : List (Int × Int)} (h : Rw w A l) (o : Obj) : Rw (w.alloc o) A l := h.step ((Below.refl _ _).alloc (Nat.le_refl _) o)
theorem Rw.drew {w : World} {A : Option Addr} {l : List (Int × Int)} (h : Rw w A l) : Rw w.drew A l := h.step (Below.refl _ _).drew
theorem Rw.lit (w : World) (l : List (Int × Int)) : Rw (w.alloc (.cells (Sc l).toArray 38)) (some ⟨w.heap.size, 0, none⟩) l := by
  refine ⟨.inr ⟨_, rfl, by simp, fun j u hu => ?_⟩⟩
  have h := heap_alloc_last w (.cells (Sc l).toArray 38)
  rw [Addr.add_lit, Nat.zero_add, cell_of_row _ _ _ _ _ _ h, List.getElem?_toArray]
  exact hu
theorem Rw.litAt (w : World) (l : List (Int × Int)) (g : Nat) (hg : w.heap.size = g) : Rw (w.alloc (.cells (Sc l).toArray 38)) (some ⟨g, 0, none⟩) l := by
  subst hg
  exact Rw.lit w l
theorem Rw.own {w : World} {base c : Nat} {A : Option Addr} {l : List (Int × Int)} {n : Nat} (h : w.ownsRow base 38 2 (.slice A n c) n (Sc l)) : Rw w A l := ⟨row_own h⟩
theorem Rw.nil (w : World) (A : Option Addr) : Rw w A [] := ⟨.inl rfl⟩
theorem Rw.take {w : World} {A : Option Addr} {l : List (Int × Int)} (h : Rw w A l) (t : Nat) : Rw w A (l.take t) := ⟨row_take h.row t⟩
def SplitOk (s t n : Int) : Prop := 1 ≤ t ∧ t ≤ n ∧ n ≤ 64 ∧ 0 ≤ s ∧ s < 2305843009213693951
/-- The package's functions. -/
structure Landed : Prop where
  splitNo : ∀ (s t n : Int) (x : List UInt8) (w : World), S3.Laid w → S4.isI64 s → S4.isI64 t → S4.isI64 n → x.length ≤ 1000 → ¬ SplitOk s t n →
    Calls Tryd.prog 9 #[.int .i64 s, .int .i64 t, .int .i64 n, .string (S3.B x)] w fun e w' => (∃ (A : Option Addr) (c : Nat), e = .returned (.tuple #[.slice A 0 c, .bool false])) ∧ Below w.heap.size w w'
  splitYes : ∀ (s : Int) (T N : Nat) (x : List UInt8) (w : World), S3.Laid w → x.length ≤ 1000 → 1 ≤ T → T ≤ N → N ≤ 64 → 0 ≤ s → s < 2305843009213693951 →
    Calls Tryd.prog 9 #[.int .i64 s, .int .i64 (T : Int), .int .i64 (N : Int), .string (S3.B x)] w fun e w' => (∃ (A : Option Addr) (c : Nat), e = .returned (.tuple #[.slice A N c, .bool true]) ∧ w'.ownsRow w.heap.size 38 2 (.slice A N c) N (Sc (shares (coefs s x T) N))) ∧ Below w.heap.size w w'
  join : ∀ (A : Option Addr) (l : List (Int × Int)) (c : Nat) (t : Int) (w : World), Rw w A l → l.length ≤ 100 → l.length ≤ c → S4.isI64 t →
    Calls Tryd.prog 12 #[.slice A l.length c, .int .i64 t] w fun e w' => e = .returned (.tuple #[.int .i64 (joinP l t).1, .bool (joinP l t).2]) ∧ Below w.heap.size w w'
  fits : ∀ (A : Option Addr) (l : List (Int × Int)) (c : Nat) (t : Int) (w : World), Rw w A l → l.length ≤ 100 → l.length ≤ c → S4.isI64 t →
    Calls Tryd.prog 14 #[.slice A l.length c, .int .i64 t] w fun e w' => e = .returned (.bool (fitP l t)) ∧ Below w.heap.size w w'

/-! ### The example's values -/
def line : List (Int × Int) := [(1, 3), (2, 5), (3, 7)]
def bent : List (Int × Int) := [(1, 3), (2, 5), (3, 8)]
theorem thru_list {f : Int → Int} {l : List (Int × Int)} (h : ∀ p ∈ l, f p.1 = p.2) : Thru f l := fun p hp => Cg.of_eq (h p hp)
theorem line_valid : Valid line := ⟨by decide, by decide, by decide⟩
theorem bent_valid : Valid bent := ⟨by decide, by decide, by decide⟩
theorem pq (l : List (Int × Int)) (hv : Valid l) (h2 : l.length = 2) (ht : ∀ p ∈ l, ev [1, 2] p.1 = p.2) : joinP l 2 = (1, true) := by
  have hv2 : Valid (l.take (2 : Int).toNat) := hv.take 2
  have e : joinV l (2 : Int).toNat = 1 := by
    have h := joinV_eq (l := l) (t := 2) (hv.take 2).apart (by omega) (ev_PF [1, 2]) (thru_list (fun p hp => ht p (List.mem_of_mem_take hp)))
    rw [ev_zero] at h
    exact h
  unfold joinP
  rw [if_pos ⟨by decide, by omega, hv2⟩, e]
theorem join_a : joinP [(1, 3), (2, 5)] 2 = (1, true) := pq _ ⟨by decide, by decide, by decide⟩ rfl (by decide)
theorem join_b : joinP [(2, 5), (1, 3)] 2 = (1, true) := pq _ ⟨by decide, by decide, by decide⟩ rfl (by decide)
theorem join_c : joinP [(1, 3), (1, 3)] 2 = (0, false) := by
  refine if_neg fun h => ?_
  have := h.2.2.one
  exact absurd this (by decide)
theorem join_d : joinP [(0, 3)] 1 = (0, false) := by
  refine if_neg fun h => ?_
  have := h.2.2.x (0, 3) (by decide)
  omega
theorem fit_a : fitP line 2 = true := decide_eq_true ⟨by decide, line_valid, ev [1, 2], ev_PF [1, 2], thru_list (by decide)⟩
theorem fit_b : fitP bent 2 = false := by
  refine decide_eq_false fun h => ?_
  obtain ⟨_, _, f, hf, tf⟩ := h
  have hap : Apart ([(1, 3), (2, 5)].map (·.1) : List Int) := (show Valid [(1, 3), (2, 5)] from ⟨by decide, by decide, by decide⟩).apart
  have h1 := unique (l := [(1, 3), (2, 5)]) hf (ev_PF [1, 2]) hap (by decide) (fun p hp => tf p (by
    have h2 : ∀ p ∈ ([(1, 3), (2, 5)] : List (Int × Int)), p ∈ bent := by decide
    exact h2 p hp)) (thru_list (by decide)) 3
  have h2 := tf (3, 8) (by decide)
  have h3 : Cg (8 : Int) 7 := h2.symm.trans (h1.trans (Cg.of_eq (by decide)))
  rw [cg_mod] at h3
  exact absurd h3 (by decide)
theorem fit_c : fitP bent 3 = true := decide_eq_true ⟨by decide, bent_valid, poly bent, poly_PF bent, poly_thru bent_valid.apart⟩
theorem fit_d : fitP [] 1 = true := decide_eq_true ⟨by decide, Valid.nil, fun _ => 0, PF.zero _, fun p hp => by simp at hp⟩
theorem fit_e : fitP [] 0 = false := decide_eq_false fun h => by have := h.1; omega
theorem split_e : shares (coefs 5 [] 1) 3 = [(1, 5), (2, 5), (3, 5)] := by decide
end Sh
end Go.Proofs.YtjpgadiobgbchaaDoor
