/-
  Layer 10 (wal): records: the iterator over the valid part of a file.
-/
import Derived.Test.YtihanhdepijijaaWalTake
import Derived.Test.YtihanhdepijijaaWalRange
import Derived.Shelf.Abstract
import Derived.Shelf.RegionOpen
import Derived.TacticsInMore
import Derived.LoopNIn
import Derived.LoopIn
namespace Go.Proofs.Ytihanhdepijijaa
open Go.RowKit Go.Shelf
namespace Wl
open S9.Dk (Dk Fr MD By)
open S2 (Rd lft)
attribute [local go_sem] Oper.semAt_some S2.B_size S2.B_drop' S2.B_take S2.B_list S2.B_app

/-- The rows, each with the place where its record ends. -/
def marksF : Nat → List Str → List (Str × Nat)
  | _, [] => []
  | k, s :: l => (s, k + (record c4 s).length) :: marksF (k + (record c4 s).length) l
def marks (l : List Str) : List (Str × Nat) := marksF 0 l
theorem marksF_snoc : ∀ (l : List Str) (k : Nat) (s : Str), marksF k (l ++ [s]) = marksF k l ++ [(s, k + (records c4 (l ++ [s])).length)]
  | [], k, s => by simp [marksF, records]
  | u :: l, k, s => by
    rw [List.cons_append, marksF, marksF_snoc l _ s, marksF, records_cons, List.length_append, Nat.add_assoc]
    rfl
theorem marks_snoc (l : List Str) (s : Str) : marks (l ++ [s]) = marks l ++ [(s, (records c4 (l ++ [s])).length)] := by
  unfold marks
  rw [marksF_snoc, Nat.zero_add]
theorem marks_rows (l : List Str) : (marks l).map (·.1) = l := by
  have : ∀ (l : List Str) (k : Nat), (marksF k l).map (·.1) = l := by
    intro l
    induction l with
    | nil => intro k; rfl
    | cons s l ih => intro k; rw [marksF, List.map_cons, ih]
  exact this l 0
/-- Where the last record ends. -/
def lastEnd (xs : List (Str × Nat)) : Nat := match xs.getLast? with
  | some x => x.2
  | none => 0
theorem lastEnd_snoc (xs : List (Str × Nat)) (x : Str × Nat) : lastEnd (xs ++ [x]) = x.2 := by simp [lastEnd]
theorem lastEnd_marks (l : List Str) : lastEnd (marks l) = (records c4 l).length := by
  rcases List.eq_nil_or_concat l with rfl | ⟨l', s, rfl⟩
  · rfl
  · rw [List.concat_eq_append, marks_snoc, lastEnd_snoc]
theorem records_five : ∀ R : List Str, 5 * R.length ≤ (records c4 R).length
  | [] => Nat.zero_le _
  | s :: l => by
    have h1 := records_five l
    have h2 := record_pos c4_len s
    rw [records_cons, List.length_append, List.length_cons]
    omega
def encs (x : Str × Nat) : Array Value := #[.string (S2.B x.1), .int .i64 (x.2 : Int)]
/-- What a round keeps: the text's box, and every reader. -/
structure KpR (Bt : Nat) (U V : World) : Prop where
  size : U.heap.size ≤ V.heap.size
  box : V.heap[Bt]? = U.heap[Bt]?
  rd : ∀ (g : Nat) (cs : Array Value) (fr : Nat × Nat), U.heap[g]? = some (Obj.cells cs 103 fr) → V.heap[g]? = some (Obj.cells cs 103 fr)
theorem KpR.trans {Bt : Nat} {A B C : World} (h : KpR Bt A B) (k : KpR Bt B C) : KpR Bt A C := ⟨Nat.le_trans h.size k.size, k.box.trans h.box, fun g cs fr hg => k.rd g cs fr (h.rd g cs fr hg)⟩
theorem KpR.put {Bt : Nat} (U : World) (l : Nat) (o o' : Obj) (hB : Bt ≠ l) (hl : U.heap[l]? = some o) (ho : o.isCells = false) : KpR Bt U (U.putObj l o') :=
  ⟨by simp [World.putObj], World.putObj_heap_other hB, fun g cs fr hg => (World.putObj_heap_other (fun e => by subst e; rw [hl] at hg; cases hg; cases ho)).trans hg⟩
/-- How much a reader has left, read off the world. -/
def leftOf (w : World) (g : Nat) : Nat := match w.cell? ⟨g, 0, none⟩ with
  | some (.string b) => b.size
  | _ => 0
theorem leftOf_rd {T : TypeId} {w : World} {g : Nat} {r : Str} (h : Rd T w g (some r)) : leftOf w g = r.length := by
  unfold leftOf
  rw [S2.cell_at h 0]
  show (S2.B r).size = _
  exact S2.B_size r

set_option maxHeartbeats 4000000 in
set_option maxRecDepth 100000 in
theorem records_any (text : Str) (w : World) :
    Calls Try.prog 29 #[.string (S2.B text)] w fun e w' => e = .returned (.func (.func 45) #[] #[ptr w.heap.size]) ∧ w' = w.alloc (.cells #[.string (S2.B text)] 9) := by
  go_enter Try.func29, Try.ntmps29
  go_wp2
  go_ret
  exact ⟨rfl, rfl⟩

set_option maxHeartbeats 4000000 in
set_option maxRecDepth 100000 in
theorem iter_any (m Bt : Nat) (text : Str) (w0 : World) (hm : 1 ≤ m) (hb : w0.heap[Bt]? = some (.cells #[.string (S2.B text)] 9 (0, 0))) (hlen : text.length ≤ 16777216) :
    SeqT Try.prog 103 m 45 #[ptr Bt] encs (KpR Bt) (fun xs => xs = marks (rows c4 text).1) 4000000 w0 := by
  intro l J W hbW hJ hY h0
  have hbt : W.heap[Bt]? = some (.cells #[.string (S2.B text)] 9 (0, 0)) := (hbW.block Bt (S2.blk_lt hb)).trans hb
  have hBt := S2.blk_lt hbt
  unfold encs at hY
  refine callsIn_of_wp Try.func45 rfl trivial ?_ rfl
  have c0 := S2.cell_at hbt 0
  have HB := Lib.hid hbt
  have HJ := Lib.hid hJ
  have HY := Lib.hid hY
  have HB0 := Lib.hid hBt
  have HLN := Lib.hid hlen
  clear hb hbW hbt hJ hY hBt hlen
  simp only [Try.ntmps45, List.size_toArray, List.length_cons, List.length_nil, Nat.reduceAdd, Nat.reduceSub, Array.replicate_succ, Array.replicate_zero, List.push_toArray, List.append_toArray, List.nil_append, List.cons_append]
  gi_wp2_with (refine ⟨trivial, ?_⟩; gi_at_call 46; refine (callsIn_wide.2 (S2.open_any text _)).mono ?_; rintro e w' ⟨rfl, rfl⟩)
  have hJ1 : J [] (W.alloc (.cells (S2.rc (some text)) 103)) := HJ.out _ _ _ none h0 (World.grownBy_alloc W _ none) (fun r e => by cases e)
  have hr1 : Rd 103 (W.alloc (.cells (S2.rc (some text)) 103)) W.heap.size (some text) := heap_alloc_new W _
  have hb1 : (W.alloc (.cells (S2.rc (some text)) 103)).heap[Bt]? = some (.cells #[.string (S2.B text)] 9 (0, 0)) := (Below.heap_alloc _ _ _ HB0.out).trans HB.out
  obtain ⟨W1, hW1⟩ : ∃ x, x = W.alloc (.cells (S2.rc (some text)) 103) := ⟨_, rfl⟩
  rw [← hW1] at hJ1 hr1 hb1 ⊢
  clear hW1 h0 c0
  obtain ⟨g, hg⟩ : ∃ g, g = W.heap.size := ⟨_, rfl⟩
  rw [← hg] at hr1 ⊢
  have HG := Lib.hid hg
  clear hg
  gi_loopw [4] (fun _ wr => ∃ (R : List Str) (r : Str), text = records c4 R ++ r ∧ (∀ s ∈ R, okRow s) ∧ J (marks R) wr ∧ Rd 103 wr g (some r) ∧ wr.heap[Bt]? = some (.cells #[.string (S2.B text)] 9 (0, 0))) (fun _ wr => leftOf wr g)
  case atStart => exact ⟨[], text, rfl, fun s hs => (by cases hs), hJ1, hr1, hb1⟩
  case round =>
    obtain ⟨R, r, he, hR, hJr, hrd, hbr⟩ := hrel
    clear hJ1 hr1 hb1
    have hrl : r.length ≤ text.length := by rw [he, List.length_append]; omega
    have KT := Lib.hid (take_any g r wr hrd (by have := HLN.out; omega))
    have HE := Lib.hid he
    have HR := Lib.hid hR
    have HJR := Lib.hid hJr
    have HRD := Lib.hid hrd
    have HBR := Lib.hid hbr
    have HRL := Lib.hid hrl
    clear he hR hJr hrd hbr hrl
    gi_wp2_with (refine ⟨trivial, ?_⟩; gi_at_call 47; refine (callsIn_wide.2 KT.out).mono ?_; rintro e w2 ⟨hgr, hst, (⟨hf, rfl⟩ | ⟨s, t, hf, rfl, hrd⟩)⟩)
    · -- no record: the loop ends
      have hJ2 : J (marks R) w2.drew := HJ.out _ _ _ (some g) HJR.out (S2.grown_drew hgr) (fun q hq => by cases hq; exact ⟨by have := HG.out; omega, _, _, HRD.out⟩)
      have hrows : rows c4 text = (R, r) := by rw [HE.out]; exact rows_of c4_len HR.out hf
      have HX := Lib.hid (show J (marks (rows c4 text).1) w2.drew by rw [hrows]; exact hJ2)
      clear hJ2 hrows hgr hst hf HJ HY HE HR HJR HRD HBR HRL KT
      refine wpIn_region_any (by kernel_rfl) ?_
      change wpAnyIn _ _ _ _ _ _ _ _ _ (World.drew _)
      refine wpAnyIn_take (i := 0) (oi := ⟨_, _, _, _, _, _⟩) (v := ?_) rfl rfl (by kernel_rfl) (by kernel_rfl) (by kernel_rfl) (fun _ _ _ h => h) ⟨Or.inl ⟨by rfl, ?_⟩, fun _ => rfl⟩ ?_
      rotate_left
      · intro wz
        go_simp
        try with_reducible rfl
      try simp only [Act.put, List.setIfInBounds_toArray, List.set_cons_zero, List.set_cons_succ]
      refine wpAnyIn_take (i := 1) (oi := ⟨_, _, _, _, _, _⟩) (v := ?_) rfl rfl (by kernel_rfl) (by kernel_rfl) (by kernel_rfl) (fun _ _ _ h => h) ⟨Or.inl ⟨by rfl, ?_⟩, fun _ => rfl⟩ ?_
      rotate_left
      · intro wz
        go_simp
        try with_reducible rfl
      try simp only [Act.put, List.setIfInBounds_toArray, List.set_cons_zero, List.set_cons_succ]
      refine wpAnyIn_take (i := 2) (oi := ⟨_, _, _, _, _, _⟩) (v := ?_) rfl rfl (by kernel_rfl) (by kernel_rfl) (by kernel_rfl) (fun _ _ _ h => h) ⟨Or.inl ⟨by rfl, ?_⟩, fun _ => rfl⟩ ?_
      rotate_left
      · intro wz
        go_simp
        try with_reducible rfl
      try simp only [Act.put, List.setIfInBounds_toArray, List.set_cons_zero, List.set_cons_succ]
      refine wpAnyIn_take (i := 3) (oi := ⟨_, _, _, _, _, _⟩) (v := undef) rfl rfl (by kernel_rfl) (by kernel_rfl) (by kernel_rfl) (fun _ _ _ h => h) ⟨Or.inr ⟨by rfl, rfl⟩, fun _ => rfl⟩ ?_
      try simp only [Act.put, List.setIfInBounds_toArray, List.set_cons_zero, List.set_cons_succ]
      refine wpAnyIn_take (i := 4) (oi := ⟨_, _, _, _, _, _⟩) (v := undef) rfl rfl (by kernel_rfl) (by kernel_rfl) (by kernel_rfl) (fun _ _ _ h => h) ⟨Or.inr ⟨by rfl, rfl⟩, fun _ => rfl⟩ ?_
      try simp only [Act.put, List.setIfInBounds_toArray, List.set_cons_zero, List.set_cons_succ]
      refine wpAnyIn_take (i := 5) (oi := ⟨_, _, _, _, _, _⟩) (v := undef) rfl rfl (by kernel_rfl) (by kernel_rfl) (by kernel_rfl) (fun _ _ _ h => h) ⟨Or.inr ⟨by rfl, rfl⟩, fun _ => rfl⟩ ?_
      try simp only [Act.put, List.setIfInBounds_toArray, List.set_cons_zero, List.set_cons_succ]
      refine wpAnyIn_take (i := 6) (oi := ⟨_, _, _, _, _, _⟩) (v := undef) rfl rfl (by kernel_rfl) (by kernel_rfl) (by kernel_rfl) (fun _ _ _ h => h) ⟨Or.inr ⟨by rfl, rfl⟩, fun _ => rfl⟩ ?_
      try simp only [Act.put, List.setIfInBounds_toArray, List.set_cons_zero, List.set_cons_succ]
      refine wpAnyIn_take (i := 7) (oi := ⟨_, _, _, _, _, _⟩) (v := undef) rfl rfl (by kernel_rfl) (by kernel_rfl) (by kernel_rfl) (fun _ _ _ h => h) ⟨Or.inr ⟨by rfl, rfl⟩, fun _ => rfl⟩ ?_
      try simp only [Act.put, List.setIfInBounds_toArray, List.set_cons_zero, List.set_cons_succ]
      refine wpAnyIn_ready (rs := [8]) (by kernel_rfl) (by simp) ?_
      refine AllReadyIn.cons rfl (fun K hK => ?_) AllReadyIn.nil
      go_simp
      refine ⟨trivial, hK _ _ ?_⟩
      clear hK K
      try simp only [Act.put, List.setIfInBounds_toArray, List.set_cons_zero, List.set_cons_succ]
      refine wpAnyIn_take (i := 9) (oi := ⟨_, _, _, _, _, _⟩) (v := undef) rfl rfl (by kernel_rfl) (by kernel_rfl) (by kernel_rfl) (fun _ _ _ h => h) ⟨Or.inr ⟨by rfl, rfl⟩, fun _ => rfl⟩ ?_
      try simp only [Act.put, List.setIfInBounds_toArray, List.set_cons_zero, List.set_cons_succ]
      refine wpAnyIn_ready (rs := [10]) (by kernel_rfl) (by simp) ?_
      refine AllReadyIn.cons rfl (fun K hK => ?_) AllReadyIn.nil
      go_simp
      refine ⟨fun _ h => (by cases h), hK _ _ ?_⟩
      clear hK K
      try simp only [Act.put, List.setIfInBounds_toArray, List.set_cons_zero, List.set_cons_succ]
      refine wpAnyIn_take (i := 11) (oi := ⟨_, _, _, _, _, _⟩) (v := undef) rfl rfl (by kernel_rfl) (by kernel_rfl) (by kernel_rfl) (fun _ _ _ h => h) ⟨Or.inr ⟨by rfl, rfl⟩, fun _ => rfl⟩ ?_
      try simp only [Act.put, List.setIfInBounds_toArray, List.set_cons_zero, List.set_cons_succ]
      refine wpAnyIn_take (i := 12) (oi := ⟨_, _, _, _, _, _⟩) (v := ?_) rfl rfl (by kernel_rfl) (by kernel_rfl) (by kernel_rfl) (fun _ _ _ h => h) ⟨Or.inl ⟨by rfl, ?_⟩, fun _ => rfl⟩ ?_
      rotate_left
      · intro wz
        go_simp
        try with_reducible rfl
      try simp only [Act.put, List.setIfInBounds_toArray, List.set_cons_zero, List.set_cons_succ]
      refine wpAnyIn_done (by kernel_rfl) ?_ _
      gi_wp2
      refine bodyPost_ret (results_none rfl _ _ _) rfl ?_
      exact ⟨⟨_, rfl⟩, _, rfl, HX.out⟩
    · -- a record: a round
      have hJ2 : J (marks R) w2.drew := HJ.out _ _ _ (some g) HJR.out (S2.grown_drew hgr) (fun q hq => by cases hq; exact ⟨by have := HG.out; omega, _, _, HRD.out⟩)
      have hbt2 : w2.drew.heap[Bt]? = some (.cells #[.string (S2.B text)] 9 (0, 0)) := (hgr.block Bt (S2.blk_lt HBR.out) (fun e => by cases e; have := HG.out; have := HB0.out; omega)).trans HBR.out
      have hrd2 : Rd 103 w2.drew g (some t) := hrd
      obtain ⟨e1, e2⟩ := (first_iff c4_len r s t).1 hf
      have he : text = records c4 (R ++ [s]) ++ t := by rw [HE.out, e1, records_append, records_one, List.append_assoc]
      have hR2 : ∀ u ∈ R ++ [s], okRow u := fun u hu => by
        rcases List.mem_append.1 hu with hu | hu
        · exact HR.out u hu
        · obtain rfl := List.mem_singleton.1 hu
          exact e2
      have hms := marks_snoc R s
      have htr : t.length < r.length := by
        have h1 := congrArg List.length e1
        rw [List.length_append] at h1
        have h2 := record_pos c4_len s
        omega
      obtain ⟨k, hk⟩ : ∃ k, k = (records c4 (R ++ [s])).length := ⟨_, rfl⟩
      rw [← hk] at hms
      have hkt : k + t.length = text.length := by rw [hk, he, List.length_append]
      have hkt2 : (text.length : Int) - (t.length : Int) = (k : Int) := by omega
      have hin : (k : Int) ≤ 16777216 := by have := HLN.out; omega
      have hwr : IntKind.i64.wrap (k : Int) = (k : Int) := IntWalk.i64_in _ (by omega)
      have K48 := Lib.hid (callsIn_wide (n := m - 1).2 (S2.left_any g (some t) w2.drew hrd2))
      have HTR := Lib.hid htr
      have HLT := Lib.hid (show (marks R).length < 4000000 by
        have h1 : (marks R).length = R.length := by rw [← List.length_map (f := (·.1)), marks_rows]
        have h2 := records_five R
        have h3 := congrArg List.length HE.out
        rw [List.length_append] at h3
        have := HLN.out
        omega)
      have HMS := Lib.hid hms
      have HE2 := Lib.hid he
      have HR2 := Lib.hid hR2
      have HJ2 := Lib.hid hJ2
      have HRD2 := Lib.hid hrd2
      have HBT2 := Lib.hid hbt2
      have HMEAS := Lib.hid (leftOf_rd HRD.out)
      have c0 := S2.cell_at hbt2 0
      have ll : lft (some t) = t := rfl
      rw [ll] at K48
      clear ll htr hms he hR2 hJ2 hrd2 hbt2 e1 e2 hf hgr hst hrd hk hkt HJ HE HR HJR HRD HBR HRL KT
      refine wpIn_region_any (by kernel_rfl) ?_
      change wpAnyIn _ _ _ _ _ _ _ _ _ (World.drew _)
      refine wpAnyIn_take (i := 0) (oi := ⟨_, _, _, _, _, _⟩) (v := ?_) rfl rfl (by kernel_rfl) (by kernel_rfl) (by kernel_rfl) (fun _ _ _ h => h) ⟨Or.inl ⟨by rfl, ?_⟩, fun _ => rfl⟩ ?_
      rotate_left
      · intro wz
        go_simp
        try with_reducible rfl
      try simp only [Act.put, List.setIfInBounds_toArray, List.set_cons_zero, List.set_cons_succ]
      refine wpAnyIn_take (i := 1) (oi := ⟨_, _, _, _, _, _⟩) (v := ?_) rfl rfl (by kernel_rfl) (by kernel_rfl) (by kernel_rfl) (fun _ _ _ h => h) ⟨Or.inl ⟨by rfl, ?_⟩, fun _ => rfl⟩ ?_
      rotate_left
      · intro wz
        go_simp
        try with_reducible rfl
      try simp only [Act.put, List.setIfInBounds_toArray, List.set_cons_zero, List.set_cons_succ]
      refine wpAnyIn_take (i := 2) (oi := ⟨_, _, _, _, _, _⟩) (v := ?_) rfl rfl (by kernel_rfl) (by kernel_rfl) (by kernel_rfl) (fun _ _ _ h => h) ⟨Or.inl ⟨by rfl, ?_⟩, fun _ => rfl⟩ ?_
      rotate_left
      · intro wz
        go_simp
        try with_reducible rfl
      try simp only [Act.put, List.setIfInBounds_toArray, List.set_cons_zero, List.set_cons_succ]
      refine wpAnyIn_take (i := 3) (oi := ⟨_, _, _, _, _, _⟩) (v := ?_) rfl rfl (by kernel_rfl) (by kernel_rfl) (by kernel_rfl) (fun _ _ _ h => h) ⟨Or.inl ⟨by rfl, ?_⟩, fun _ => rfl⟩ ?_
      rotate_left
      · intro wz
        go_simp
        try with_reducible rfl
      try simp only [Act.put, List.setIfInBounds_toArray, List.set_cons_zero, List.set_cons_succ]
      refine wpAnyIn_take (i := 4) (oi := ⟨_, _, _, _, _, _⟩) (v := ?_) rfl rfl (by kernel_rfl) (by kernel_rfl) (by kernel_rfl) (fun _ _ _ h => h) ⟨Or.inl ⟨by rfl, ?_⟩, fun _ => rfl⟩ ?_
      rotate_left
      · intro wz
        go_simp
        try with_reducible rfl
      try simp only [Act.put, List.setIfInBounds_toArray, List.set_cons_zero, List.set_cons_succ]
      refine wpAnyIn_take (i := 7) (oi := ⟨_, _, _, _, _, _⟩) (v := ?_) rfl rfl (by kernel_rfl) (by kernel_rfl) (by kernel_rfl) (fun _ _ _ h => h) ⟨Or.inl ⟨by rfl, ?_⟩, fun _ => rfl⟩ ?_
      rotate_left
      · intro wz
        go_simp
        try with_reducible rfl
      try simp only [Act.put, List.setIfInBounds_toArray, List.set_cons_zero, List.set_cons_succ]
      refine wpAnyIn_ready (rs := [5, 8]) (by kernel_rfl) (by simp) ?_
      refine AllReadyIn.cons rfl (fun K hK => ?_) (AllReadyIn.cons rfl (fun K hK => ?_) AllReadyIn.nil)
      · go_simp
        refine hK _ _ ?_
        clear hK K
        try simp only [Act.put, List.setIfInBounds_toArray, List.set_cons_zero, List.set_cons_succ]
        refine wpAnyIn_take (i := 6) (oi := ⟨_, _, _, _, _, _⟩) (v := ?_) rfl rfl (by kernel_rfl) (by kernel_rfl) (by kernel_rfl) (fun _ _ _ h => h) ⟨Or.inl ⟨by rfl, ?_⟩, fun _ => rfl⟩ ?_
        rotate_left
        · intro wz
          go_simp
          try with_reducible rfl
        try simp only [Act.put, List.setIfInBounds_toArray, List.set_cons_zero, List.set_cons_succ]
        refine wpAnyIn_ready (rs := [8]) (by kernel_rfl) (by simp) ?_
        refine AllReadyIn.cons rfl (fun K hK => ?_) AllReadyIn.nil
        go_simp
        refine ⟨trivial, ?_⟩
        refine K48.out.mono ?_
        rintro e w3 ⟨rfl, rfl⟩
        refine hK _ _ ?_
        clear hK K
        try simp only [Act.put, List.setIfInBounds_toArray, List.set_cons_zero, List.set_cons_succ]
        refine wpAnyIn_take (i := 9) (oi := ⟨_, _, _, _, _, _⟩) (v := ?_) rfl rfl (by kernel_rfl) (by kernel_rfl) (by kernel_rfl) (fun _ _ _ h => h) ⟨Or.inl ⟨by rfl, ?_⟩, fun _ => rfl⟩ ?_
        rotate_left
        · intro wz
          go_simp
          try with_reducible rfl
        try simp only [Act.put, List.setIfInBounds_toArray, List.set_cons_zero, List.set_cons_succ]
        obtain ⟨fn, tmps, assign, body, hy, hR⟩ := HY.out (marks R) (s, k) w2.drew HJ2.out HLT.out
        dsimp only at hy
        refine wpAnyIn_ready (rs := [10]) (by kernel_rfl) (by simp) ?_
        refine AllReadyIn.cons rfl (fun K hK => ?_) AllReadyIn.nil
        go_simp
        refine hR.mono ?_
        rintro e W3 ⟨rfl, hJ3, hk3⟩
        refine hK _ _ ?_
        clear hK K
        try simp only [Act.put, List.setIfInBounds_toArray, List.set_cons_zero, List.set_cons_succ]
        have RR := Lib.hid (show (∃ (R' : List Str) (r' : Str), text = records c4 R' ++ r' ∧ (∀ s ∈ R', okRow s) ∧ J (marks R') W3 ∧ Rd 103 W3 g (some r') ∧ W3.heap[Bt]? = some (.cells #[.string (S2.B text)] 9 (0, 0))) ∧ leftOf W3 g < leftOf wr g from
          ⟨⟨R ++ [s], t, HE2.out, HR2.out, by rw [HMS.out]; exact hJ3, hk3.rd g _ _ HRD2.out, hk3.box.trans HBT2.out⟩, by rw [HMEAS.out, leftOf_rd (hk3.rd g _ _ HRD2.out)]; exact HTR.out⟩)
        clear hJ3 hk3 hy hR HY HJ2 HRD2 HBT2 HMEAS HTR HMS HE2 HR2 K48 c0
        refine wpAnyIn_take (i := 11) (oi := ⟨_, _, _, _, _, _⟩) (v := ?_) rfl rfl (by kernel_rfl) (by kernel_rfl) (by kernel_rfl) (fun _ _ _ h => h) ⟨Or.inl ⟨by rfl, ?_⟩, fun _ => rfl⟩ ?_
        rotate_left
        · intro wz
          go_simp
          try with_reducible rfl
        try simp only [Act.put, List.setIfInBounds_toArray, List.set_cons_zero, List.set_cons_succ]
        refine wpAnyIn_take (i := 12) (oi := ⟨_, _, _, _, _, _⟩) (v := ?_) rfl rfl (by kernel_rfl) (by kernel_rfl) (by kernel_rfl) (fun _ _ _ h => h) ⟨Or.inl ⟨by rfl, ?_⟩, fun _ => rfl⟩ ?_
        rotate_left
        · intro wz
          go_simp
          try with_reducible rfl
        try simp only [Act.put, List.setIfInBounds_toArray, List.set_cons_zero, List.set_cons_succ]
        refine wpAnyIn_done (by kernel_rfl) ?_ _
        gi_wp2
        go_roundw
        case rel => exact RR.out.1
        case measure => exact RR.out.2
      · go_simp
        refine ⟨trivial, ?_⟩
        refine K48.out.mono ?_
        rintro e w3 ⟨rfl, rfl⟩
        refine hK _ _ ?_
        clear hK K
        try simp only [Act.put, List.setIfInBounds_toArray, List.set_cons_zero, List.set_cons_succ]
        refine wpAnyIn_ready (rs := [5]) (by kernel_rfl) (by simp) ?_
        refine AllReadyIn.cons rfl (fun K hK => ?_) AllReadyIn.nil
        go_simp
        refine hK _ _ ?_
        clear hK K
        try simp only [Act.put, List.setIfInBounds_toArray, List.set_cons_zero, List.set_cons_succ]
        refine wpAnyIn_take (i := 6) (oi := ⟨_, _, _, _, _, _⟩) (v := ?_) rfl rfl (by kernel_rfl) (by kernel_rfl) (by kernel_rfl) (fun _ _ _ h => h) ⟨Or.inl ⟨by rfl, ?_⟩, fun _ => rfl⟩ ?_
        rotate_left
        · intro wz
          go_simp
          try with_reducible rfl
        try simp only [Act.put, List.setIfInBounds_toArray, List.set_cons_zero, List.set_cons_succ]
        refine wpAnyIn_take (i := 9) (oi := ⟨_, _, _, _, _, _⟩) (v := ?_) rfl rfl (by kernel_rfl) (by kernel_rfl) (by kernel_rfl) (fun _ _ _ h => h) ⟨Or.inl ⟨by rfl, ?_⟩, fun _ => rfl⟩ ?_
        rotate_left
        · intro wz
          go_simp
          try with_reducible rfl
        try simp only [Act.put, List.setIfInBounds_toArray, List.set_cons_zero, List.set_cons_succ]
        obtain ⟨fn, tmps, assign, body, hy, hR⟩ := HY.out (marks R) (s, k) w2.drew HJ2.out HLT.out
        dsimp only at hy
        refine wpAnyIn_ready (rs := [10]) (by kernel_rfl) (by simp) ?_
        refine AllReadyIn.cons rfl (fun K hK => ?_) AllReadyIn.nil
        go_simp
        refine hR.mono ?_
        rintro e W3 ⟨rfl, hJ3, hk3⟩
        refine hK _ _ ?_
        clear hK K
        try simp only [Act.put, List.setIfInBounds_toArray, List.set_cons_zero, List.set_cons_succ]
        have RR := Lib.hid (show (∃ (R' : List Str) (r' : Str), text = records c4 R' ++ r' ∧ (∀ s ∈ R', okRow s) ∧ J (marks R') W3 ∧ Rd 103 W3 g (some r') ∧ W3.heap[Bt]? = some (.cells #[.string (S2.B text)] 9 (0, 0))) ∧ leftOf W3 g < leftOf wr g from
          ⟨⟨R ++ [s], t, HE2.out, HR2.out, by rw [HMS.out]; exact hJ3, hk3.rd g _ _ HRD2.out, hk3.box.trans HBT2.out⟩, by rw [HMEAS.out, leftOf_rd (hk3.rd g _ _ HRD2.out)]; exact HTR.out⟩)
        clear hJ3 hk3 hy hR HY HJ2 HRD2 HBT2 HMEAS HTR HMS HE2 HR2 K48 c0
        refine wpAnyIn_take (i := 11) (oi := ⟨_, _, _, _, _, _⟩) (v := ?_) rfl rfl (by kernel_rfl) (by kernel_rfl) (by kernel_rfl) (fun _ _ _ h => h) ⟨Or.inl ⟨by rfl, ?_⟩, fun _ => rfl⟩ ?_
        rotate_left
        · intro wz
          go_simp
          try with_reducible rfl
        try simp only [Act.put, List.setIfInBounds_toArray, List.set_cons_zero, List.set_cons_succ]
        refine wpAnyIn_take (i := 12) (oi := ⟨_, _, _, _, _, _⟩) (v := ?_) rfl rfl (by kernel_rfl) (by kernel_rfl) (by kernel_rfl) (fun _ _ _ h => h) ⟨Or.inl ⟨by rfl, ?_⟩, fun _ => rfl⟩ ?_
        rotate_left
        · intro wz
          go_simp
          try with_reducible rfl
        try simp only [Act.put, List.setIfInBounds_toArray, List.set_cons_zero, List.set_cons_succ]
        refine wpAnyIn_done (by kernel_rfl) ?_ _
        gi_wp2
        go_roundw
        case rel => exact RR.out.1
        case measure => exact RR.out.2
end Wl
end Go.Proofs.Ytihanhdepijijaa
