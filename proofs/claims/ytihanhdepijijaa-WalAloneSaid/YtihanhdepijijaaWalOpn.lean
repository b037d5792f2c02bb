/-
  Layer 10 (wal): Open.
-/
import Derived.Test.YtihanhdepijijaaWalRewrite
import Derived.Test.YtihanhdepijijaaWalIter
namespace Go.Proofs.Ytihanhdepijijaa
open Go.RowKit Go.Shelf
namespace Wl
open S9.Dk (Dk Fr MD By isI)
attribute [local go_sem] Oper.semAt_some S2.B_size S2.B_drop' S2.B_take S2.B_list S2.B_app

/-- What Open hands back. -/
def OpenRes (X : Nat → Prop) (p : Nat) (f : Int) (r : (Option (List Str) × Int) × MD) (e : Ending) (w' : World) : Prop :=
  match r.1.1 with
  | some R => ∃ x, e = .returned (.tuple #[ptr x, .int .i64 r.1.2]) ∧ Lg X w' x p f R r.2
  | none => e = .returned (.tuple #[.pointer none, .int .i64 r.1.2]) ∧ Dk X w' p r.2

set_option maxHeartbeats 1000000 in
set_option maxRecDepth 100000 in
theorem Open_nil (f : Int) (w : World) : Calls Try.prog 10 #[.pointer none, .int .i64 f] w fun e w' => e = .returned (.tuple #[.pointer none, .int .i64 1]) ∧ w = w' := by
  go_enter Try.func10, Try.ntmps10
  go_wp2
  go_ret2
  exact ⟨rfl, rfl⟩
set_option maxHeartbeats 1000000 in
set_option maxRecDepth 100000 in
theorem Open_out (X : Nat → Prop) (p : Nat) (D : MD) (f : Int) (hf : f < 0 ∨ 6 < f) (w : World) (h : Dk X w p D) : Calls Try.prog 10 #[ptr p, .int .i64 f] w fun e w' => OpenRes X p f (lopen c4 D f) e w' ∧ Fr X w w' := by
  have E : lopen c4 D f = ((none, 1), D) := if_pos hf
  rw [E]
  have H := Lib.hid h
  clear h E
  rcases hf with hf | hf
  · go_enter Try.func10, Try.ntmps10
    go_wp2
    go_ret2
    exact ⟨⟨rfl, H.out⟩, Fr.refl _ _⟩
  · have hf' : ¬ f < 0 := by omega
    go_enter Try.func10, Try.ntmps10
    go_wp2
    go_ret2
    exact ⟨⟨rfl, H.out⟩, Fr.refl _ _⟩

/-! ### Open in steps -/
section
variable {D D1 D2 D3 : MD} {f z : Int} {text : Str}
theorem open1_cut (hte : D.read f = (text, 0)) : open1 c4 D f = cutTo D f (records c4 (rows c4 text).1).length := by
  have hb := rows_spec c4_len text
  have hl := congrArg List.length hb.1
  rw [List.length_append] at hl
  have hv : valid c4 text = (records c4 (rows c4 text).1).length := by unfold valid; omega
  have hsz : D.size f = text.length := by
    have h0 : D.chk1 f = 0 := by
      unfold MD.read at hte
      split at hte
      · rename_i h; simp only [Prod.mk.injEq] at hte; exact absurd hte.2 h
      · rename_i h; exact Decidable.not_not.1 h
    have ht : D.text f.toNat = text := by
      unfold MD.read at hte
      rw [if_neg (by simp [h0])] at hte
      exact congrArg Prod.fst hte
    have hf : S9.Dk.isF f = true := by
      unfold MD.chk1 at h0
      split at h0
      · cases h0
      · split at h0
        · assumption
        · cases h0
    unfold MD.size
    rw [if_pos hf, ht]
  unfold open1 cutTo
  rw [hte]
  simp only
  rw [hv, hsz]
  by_cases h : (records c4 (rows c4 text).1).length < text.length
  · rw [if_pos h, if_neg (by omega)]
  · rw [if_neg h, if_pos (by omega)]
theorem open2_cut : open2 (0, D1) f = cutTo D1 (f + 1) 0 := by
  unfold open2 cutTo
  by_cases h : 0 < D1.size (f + 1)
  · rw [if_pos ⟨rfl, h⟩, if_neg (by omega)]; rfl
  · rw [if_neg (fun e => h e.2), if_pos (by omega)]
variable (hlo : 0 ≤ f) (hhi : f ≤ 6) (hte : D.read f = (text, 0))
include hlo hhi hte
theorem lopen_1 (h1 : open1 c4 D f = (z, D1)) (hz : z ≠ 0) : lopen c4 D f = ((none, z), D1) := by
  have h2 : open2 (z, D1) f = (z, D1) := if_neg (fun e => hz e.1)
  have h3 : open3 (z, D1) f = (z, D1) := if_neg hz
  unfold lopen
  rw [if_neg (by omega), hte, if_neg (by simp), h1, h2, h3, if_neg hz]
theorem lopen_2 (h1 : open1 c4 D f = (0, D1)) (h2 : open2 (0, D1) f = (z, D2)) (hz : z ≠ 0) : lopen c4 D f = ((none, z), D2) := by
  have h3 : open3 (z, D2) f = (z, D2) := if_neg hz
  unfold lopen
  rw [if_neg (by omega), hte, if_neg (by simp), h1, h2, h3, if_neg hz]
theorem lopen_3 (h1 : open1 c4 D f = (0, D1)) (h2 : open2 (0, D1) f = (0, D2)) (h3 : D2.flush f = (z, D3)) (hz : z ≠ 0) : lopen c4 D f = ((none, z), D3) := by
  have h3' : open3 (0, D2) f = (z, D3) := by unfold open3; rw [if_pos rfl]; exact h3
  unfold lopen
  rw [if_neg (by omega), hte, if_neg (by simp), h1, h2, h3', if_neg hz]
theorem lopen_4 (h1 : open1 c4 D f = (0, D1)) (h2 : open2 (0, D1) f = (0, D2)) (h3 : D2.flush f = (0, D3)) : lopen c4 D f = ((some (rows c4 text).1, 0), D3) := by
  have h3' : open3 (0, D2) f = (0, D3) := by unfold open3; rw [if_pos rfl]; exact h3
  unfold lopen
  rw [if_neg (by omega), hte, if_neg (by simp), h1, h2, h3', if_pos rfl]
end

/-! ### What holds between two rounds -/
structure Ib (w1 : World) (p : Nat) (f : Int) (s : Nat) (pre : List (Str × Nat)) (W : World) : Prop where
  row : ∃ v, W.heap[s]? = some (.cells #[ptr p, .int .i64 f, v] 69 (0, 0)) ∧ W.ownsRow (s + 4) 9 1 v (pre.map (·.1)).length (S2.Ss (pre.map (·.1)))
  box : W.heap[s + 1]? = some (.cells #[ptr s] 28 (0, 0))
  num : W.heap[s + 2]? = some (.cells #[.int .i64 (lastEnd pre : Nat)] 3 (0, 0))
  old : Below s w1 W
  siz : s + 4 ≤ W.heap.size
theorem Ib.bides (w1 : World) (p : Nat) (f : Int) (s B : Nat) (hB : B = s + 4) : BidesI 103 B (Ib w1 p f s) := by
  subst hB
  rintro pre U V row ⟨⟨v, h1, h2⟩, h3, h4, h5, h6⟩ hg hr
  have low : ∀ k, k < U.heap.size → k < s + 4 → V.heap[k]? = U.heap[k]? := fun k hk hl => hg.block k hk (fun e => by have := (hr k e.symm).1; omega)
  refine ⟨⟨v, (low s (S2.blk_lt h1) (by omega)).trans h1, S9.Dk.own_keep h2 fun g hg2 => ?_⟩, (low _ (S2.blk_lt h3) (by omega)).trans h3, (low _ (S2.blk_lt h4) (by omega)).trans h4, ?_, Nat.le_trans h6 hg.size⟩
  · refine hg.block g (h2.lt g hg2).2 fun e => ?_
    obtain ⟨_, o, ho, hc⟩ := hr g e.symm
    rcases h2.2 with ⟨rfl, _⟩ | ⟨g', cap, cur, rfl, _, hh, _⟩
    · cases hg2
    · simp only [Value.ownBlock, Option.some.injEq] at hg2
      subst hg2
      rw [hh] at ho
      cases ho
      rcases hc with hc | ⟨cs, fr, hc⟩
      · cases hc
      · cases hc
  · exact ⟨hg.os.trans h5.os, hg.tape.trans h5.tape, hg.output.trans h5.output, Nat.le_trans h5.size hg.size, fun k hk => (low k (by have := S2.blk_lt h1; omega) (by omega)).trans (h5.block k hk)⟩

theorem own_up {w : World} {v : Value} {l : List Str} {B : Nat} (h : Own w v l) (hB : ∀ g, v.ownBlock = some g → B ≤ g) : w.ownsRow B 9 1 v l.length (S2.Ss l) := by
  refine ⟨h.1, ?_⟩
  rcases h.2 with h1 | ⟨g, cap, cur, e, _, h2⟩
  · exact .inl h1
  · exact .inr ⟨g, cap, cur, e, hB g (by rw [e]; rfl), h2⟩
/-- A round: what it leaves. -/
theorem body_post {w1 : World} {p : Nat} {f : Int} {s : Nat} {pre : List (Str × Nat)} {V w3 : World} {v v' : Value} (x : Str × Nat) (o : Obj)
    (hxv : V.heap[s]? = some (.cells #[ptr p, .int .i64 f, v] 69 (0, 0))) (hown : V.ownsRow (s + 4) 9 1 v (pre.map (·.1)).length (S2.Ss (pre.map (·.1))))
    (hbl : V.heap[s + 1]? = some (.cells #[ptr s] 28 (0, 0))) (hbv : V.heap[s + 2]? = some (.cells #[.int .i64 (lastEnd pre : Nat)] 3 (0, 0))) (hold : Below s w1 V) (hsiz : s + 4 ≤ V.heap.size)
    (ho : Own w3 v' (pre.map (·.1) ++ [x.1])) (hg : (V.drew.alloc o).grownBy w3 v.ownBlock) (hpl : v'.ownBlock = v.ownBlock ∨ ∀ g, v'.ownBlock = some g → V.heap.size + 1 ≤ g) :
    KeepsOthers V ((w3.setCell ⟨s, 2, none⟩ v').setCell ⟨s + 2, 0, none⟩ (.int .i64 (x.2 : Int))) ∧ KpR (s + 3) V ((w3.setCell ⟨s, 2, none⟩ v').setCell ⟨s + 2, 0, none⟩ (.int .i64 (x.2 : Int))) ∧
      Ib w1 p f s (pre ++ [x]) ((w3.setCell ⟨s, 2, none⟩ v').setCell ⟨s + 2, 0, none⟩ (.int .i64 (x.2 : Int))) := by
  have hvg : ∀ g, v.ownBlock = some g → s + 4 ≤ g ∧ ∃ cur, V.heap[g]? = some (.cells cur 9 (0, 0)) := fun g hg2 => by
    rcases hown.2 with ⟨rfl, _⟩ | ⟨g', cap, cur, rfl, hb, hh, _⟩
    · cases hg2
    · simp only [Value.ownBlock, Option.some.injEq] at hg2
      subst hg2
      exact ⟨hb, cur, hh⟩
  have hv'g : ∀ g, v'.ownBlock = some g → s + 4 ≤ g := fun g hg2 => by
    rcases hpl with h1 | h1
    · exact (hvg g (h1.symm.trans hg2)).1
    · have := h1 g hg2; omega
  have a1 : ∀ k, k < V.heap.size → (V.drew.alloc o).heap[k]? = V.heap[k]? := fun k hk => Below.heap_alloc V.drew o k hk
  have a2 : ∀ k, k < V.heap.size → v.ownBlock ≠ some k → w3.heap[k]? = V.heap[k]? := fun k hk hne => (hg.block k (by rw [World.size_alloc]; exact Nat.lt_succ_of_lt hk) (fun e => hne e.symm)).trans (a1 k hk)
  have a3 : ∀ k, k < V.heap.size → v.ownBlock ≠ some k → k ≠ s → k ≠ s + 2 → ((w3.setCell ⟨s, 2, none⟩ v').setCell ⟨s + 2, 0, none⟩ (.int .i64 (x.2 : Int))).heap[k]? = V.heap[k]? := fun k hk hne h1 h2 =>
    (Below.heap_setCell _ _ _ _ h2).trans ((Below.heap_setCell _ _ _ _ h1).trans (a2 k hk hne))
  have low : ∀ k, k < s + 4 → v.ownBlock ≠ some k := fun k hk e => by have := (hvg k e).1; omega
  have hs3 : w3.heap[s]? = some (.cells #[ptr p, .int .i64 f, v] 69 (0, 0)) := (a2 s (by omega) (low s (by omega))).trans hxv
  have hb3 : w3.heap[s + 2]? = some (.cells #[.int .i64 (lastEnd pre : Nat)] 3 (0, 0)) := (a2 _ (by omega) (low _ (by omega))).trans hbv
  have hsz : V.heap.size ≤ w3.heap.size := by have := hg.size; rw [World.size_alloc] at this; exact Nat.le_trans (Nat.le_succ _) this
  have hszW : V.heap.size ≤ ((w3.setCell ⟨s, 2, none⟩ v').setCell ⟨s + 2, 0, none⟩ (.int .i64 (x.2 : Int))).heap.size := by simpa [World.setCell] using hsz
  refine ⟨?_, ⟨hszW, a3 _ (by omega) (low _ (by omega)) (by omega) (by omega), fun g cs fr hgr => ?_⟩, ⟨⟨v', ?_, ?_⟩, ?_, ?_, ?_, Nat.le_trans hsiz hszW⟩⟩
  · have k1 : KeepsOthers V (V.drew.alloc o) := (KeepsOthers.drew V).trans (KeepsOthers.alloc _ _)
    have k2 : KeepsOthers (V.drew.alloc o) w3 := KeepsOthers.of_grownBy hg fun j oo ej hj => by
      obtain ⟨_, cur, hc⟩ := hvg j ej
      have e := (a1 j (S2.blk_lt hc)).trans hc
      rw [hj] at e
      cases e
      rfl
    exact ((k1.trans k2).trans (KeepsOthers.setCell _ _ _)).trans (KeepsOthers.setCell _ _ _)
  · have hlt := S2.blk_lt hgr
    refine (a3 g hlt (fun e => ?_) (fun e => ?_) (fun e => ?_)).trans hgr
    · obtain ⟨_, cur, hc⟩ := hvg g e
      rw [hgr] at hc
      cases hc
    · subst e
      rw [hgr] at hxv
      cases hxv
    · subst e
      rw [hgr] at hbv
      cases hbv
  · rw [Below.heap_setCell _ _ _ _ (show s ≠ s + 2 by omega), heap_setCell_same w3 s 2 _ _ v' hs3]
    rfl
  · rw [List.map_append, List.map_singleton]
    refine S9.Dk.own_keep (own_up ho hv'g) fun g hg2 => ?_
    have := hv'g g hg2
    exact (Below.heap_setCell _ _ _ _ (by show g ≠ s + 2; omega)).trans (Below.heap_setCell _ _ _ _ (by show g ≠ s; omega))
  · exact (a3 _ (by omega) (low _ (by omega)) (by omega) (by omega)).trans hbl
  · have e2 : (w3.setCell ⟨s, 2, none⟩ v').heap[s + 2]? = some (.cells #[.int .i64 (lastEnd pre : Nat)] 3 (0, 0)) := (Below.heap_setCell _ _ _ _ (by show s + 2 ≠ s; omega)).trans hb3
    rw [heap_setCell_same _ (s + 2) 0 _ _ _ e2, lastEnd_snoc]
    rfl
  · refine ⟨hg.os.trans hold.os, hg.tape.trans hold.tape, hg.output.trans hold.output, Nat.le_trans hold.size hszW, fun k hk => (a3 k (by omega) (low k (by omega)) (by omega) (by omega)).trans (hold.block k hk)⟩

set_option maxHeartbeats 2000000 in
set_option maxRecDepth 100000 in
theorem Open_in (X : Nat → Prop) (p : Nat) (D : MD) (f : Int) (hf0 : 0 ≤ f) (hf6 : f ≤ 6) (w : World) (h : Dk X w p D) : Calls Try.prog 10 #[ptr p, .int .i64 f] w fun e w' => OpenRes X p f (lopen c4 D f) e w' ∧ Fr X w w' := by
  have hok := h.ok
  have KR := Lib.hid (S9.Dk.Read_any X p D f w h)
  have hlow : ¬ f < 0 := by omega
  have htop : ¬ 6 < f := by omega
  have hL : lopen c4 D f = if (D.read f).2 ≠ 0 then ((none, (D.read f).2), D)
    else if (open3 (open2 (open1 c4 D f) f) f).1 = 0 then ((some (rows c4 (D.read f).1).1, 0), (open3 (open2 (open1 c4 D f) f) f).2)
    else ((none, (open3 (open2 (open1 c4 D f) f) f).1), (open3 (open2 (open1 c4 D f) f) f).2) := by
    unfold lopen
    rw [if_neg (by omega)]
  have hread : (D.read f).2 = 0 → (D.read f).1.length ≤ 16777216 := fun h0 => by
    unfold MD.read at h0 ⊢
    split
    · simp
    · exact hok.len _ (by omega)
  obtain ⟨r, hr⟩ : ∃ r, r = lopen c4 D f := ⟨_, rfl⟩
  have HRL := Lib.hid hr
  rw [← hr]
  rw [hL] at hr
  have hdk := h
  obtain ⟨text, er, hte⟩ : ∃ t e, D.read f = (t, e) := ⟨_, _, rfl⟩
  by_cases her : er = 0
  case neg =>
    have E := Lib.hid (show r = ((none, er), D) by rw [hr, hte]; exact if_pos her)
    rw [hte] at KR
    have her' : (er == 0) = false := by simpa using her
    clear hr hL hread hte hdk hok her h
    go_enter Try.func10, Try.ntmps10
    go_wp2_with fail
    refine KR.out.mono ?_
    rintro e w1 ⟨rfl, h1, f1⟩
    have RR := Lib.hid (And.intro h1 f1)
    clear h1 f1 KR
    go_wp2
    go_ret2
    exact ⟨by rw [E.out]; exact ⟨rfl, RR.out.1⟩, RR.out.2⟩
  subst her
  have hlen : text.length ≤ 16777216 := by have := hread (by rw [hte]); rwa [hte] at this
  rw [hte] at KR
  have HTE := Lib.hid hte
  have HLEN := Lib.hid hlen
  clear hL hr hread hdk h hok hte hlen
  refine (callsIn_wide (n := 6)).1 ?_
  refine callsIn_of_wp_marks Try.func10 rfl trivial ?_ rfl
  simp only [Try.ntmps10, List.size_toArray, List.length_cons, List.length_nil, Nat.reduceAdd, Nat.reduceSub, Array.replicate_succ, Array.replicate_zero, List.push_toArray, List.append_toArray, List.nil_append, List.cons_append]
  gi_wp2_with (refine ⟨trivial, ?_⟩; gi_at_call 24; refine (callsIn_wide.2 KR.out).mono ?_; rintro e w1 ⟨rfl, h1, f1⟩; have H1 := Lib.hid h1; have F1 := Lib.hid f1; clear h1 f1 KR)
  gi_wp2_with (refine ⟨trivial, ?_⟩; gi_at_call 29; refine (callsIn_wide.2 (records_any text _)).mono ?_; rintro e w2 ⟨rfl, rfl⟩)
  -- the world at the loop's door
  obtain ⟨s, hs⟩ : ∃ s, s = w1.heap.size := ⟨_, rfl⟩
  obtain ⟨W0, hW0⟩ : ∃ W0, W0 = ((((w1.alloc (.cells #[ptr p, .int .i64 f, .slice none 0 0] 69)).alloc (.cells #[.pointer (some ⟨w1.heap.size, 0, none⟩)] 28)).alloc (.cells #[.int .i64 0] 3)).alloc (.cells #[.string (S2.B text)] 9)) := ⟨_, rfl⟩
  rw [← hW0]
  have hsz : W0.heap.size = s + 4 := by rw [hW0, hs]; simp
  have hbel : Below s w1 W0 := by
    rw [hW0, hs]
    exact ((((Below.refl w1.heap.size w1).alloc (Nat.le_refl _) _).alloc (by simp) _).alloc (by simp <;> omega) _).alloc (by simp <;> omega) _
  have hx : W0.heap[s]? = some (.cells #[ptr p, .int .i64 f, .slice none 0 0] 69 (0, 0)) := by
    rw [hW0, hs, Below.heap_alloc _ _ _ (by simp <;> omega), Below.heap_alloc _ _ _ (by simp <;> omega), Below.heap_alloc _ _ _ (by simp)]
    exact heap_alloc_new _ _
  have hbl : W0.heap[s + 1]? = some (.cells #[ptr s] 28 (0, 0)) := by
    have e := heap_alloc_new (w1.alloc (.cells #[ptr p, .int .i64 f, .slice none 0 0] 69)) (.cells #[.pointer (some ⟨w1.heap.size, 0, none⟩)] 28)
    rw [World.size_alloc] at e
    rw [hW0, hs, Below.heap_alloc _ _ _ (by simp <;> omega), Below.heap_alloc _ _ _ (by simp)]
    exact e
  have hbv : W0.heap[s + 2]? = some (.cells #[.int .i64 0] 3 (0, 0)) := by
    have e := heap_alloc_new ((w1.alloc (.cells #[ptr p, .int .i64 f, .slice none 0 0] 69)).alloc (.cells #[.pointer (some ⟨w1.heap.size, 0, none⟩)] 28)) (.cells #[.int .i64 0] 3)
    rw [World.size_alloc, World.size_alloc] at e
    rw [hW0, hs, Below.heap_alloc _ _ _ (by simp)]
    exact e
  have hbt : W0.heap[s + 3]? = some (.cells #[.string (S2.B text)] 9 (0, 0)) := by
    have e := heap_alloc_new (((w1.alloc (.cells #[ptr p, .int .i64 f, .slice none 0 0] 69)).alloc (.cells #[.pointer (some ⟨w1.heap.size, 0, none⟩)] 28)).alloc (.cells #[.int .i64 0] 3)) (.cells #[.string (S2.B text)] 9)
    rw [World.size_alloc, World.size_alloc, World.size_alloc] at e
    rw [hW0, hs]
    exact e
  have hI0 : Ib w1 p f s [] W0 := ⟨⟨_, hx, World.ownsRow_nil _ _ _ _⟩, hbl, hbv, hbel, by omega⟩
  rw [show w1.heap.size + 1 + 1 + 1 = s + 3 by omega, show w1.heap.size + 1 + 1 = s + 2 by omega, show w1.heap.size + 1 = s + 1 by omega, ← hs]
  have HIT := Lib.hid (iter_any 5 (s + 3) text W0 (by omega) hbt HLEN.out)
  have HI0 := Lib.hid hI0
  have HSZ := Lib.hid hsz
  have HS := Lib.hid hs
  clear hx hbl hbv hbt hI0 hbel hW0 hsz hs
  refine range_law (T := 103) 45 #[ptr (s + 3)] rfl (enters_of Try.func45 (by kernel_rfl) rfl) encs (fun _ => rfl) (KpR (s + 3)) (fun xs => xs = marks (rows c4 text).1) 4000000 HIT.out
    KpR.trans (fun U l o o' h1 h2 h3 => KpR.put U l o o' (by have := HSZ.out; omega) h2 h3) (Ib w1 p f s) (Ib.bides w1 p f s _ HSZ.out) HI0.out
    (fun x => { tmps := #[ptr p, .int .i64 f, undef, undef, .pointer none, .int .i64 0, .string (S2.B text), .int .i64 0, .pointer (some ⟨s + 1, 0, none⟩), .pointer (some ⟨s + 2, 0, none⟩), .string (S2.B x.1), .int .i64 (x.2 : Int), undef, undef, undef, ptr p, .bool false, .bool false, .int .i64 f, .bool false, .bool false, .bool false, .int .i64 f, .bool false, .bool false, .tuple #[.string (S2.B text), .int .i64 0], ptr p, .int .i64 f, .tuple #[.string (S2.B text), .int .i64 0], .string (S2.B text), .int .i64 0, .int .i64 0, .bool false, undef, ptr p, .int .i64 f, .agg #[ptr p, .int .i64 f, .slice none 0 0], .pointer (some ⟨s, 0, none⟩), .string (S2.B text), .func (.func 45) #[] #[ptr (s + 3)], .string (S2.B x.1), .int .i64 (x.2 : Int), undef, undef, undef, undef, undef, undef, undef, undef, undef, undef, undef, undef, undef, undef, undef, undef, undef, undef, undef, undef, undef, undef, undef, undef, undef, undef, undef, undef, undef, undef, undef, undef], defers := [] }) ?assign ?body ?done
  case assign =>
    intro l x V K hK
    unfold encs
    gi_wp2
    exact hK
  case body =>
    rintro l pre x V hI hN
    obtain ⟨⟨v, hxv, hown⟩, hbl, hbv, hold, hsiz⟩ := hI
    have cbl : V.drew.cell? ⟨s + 1, 0, none⟩ = some (ptr s) := S2.cell_at hbl 0
    have cv : V.drew.cell? ⟨s, 2, none⟩ = some v := S2.cell_at hxv 2
    have e6 : ∀ k, k < V.heap.size → (V.alloc (.cells #[.string (S2.B x.1)] 9)).drew.heap[k]? = V.heap[k]? := fun k hk => Below.heap_alloc V _ k hk
    have CBA := Lib.hid (show (V.alloc (.cells #[.string (S2.B x.1)] 9)).drew.cell? ⟨s + 1, 0, none⟩ = some (ptr s) from (World.cell?_of_block (a := ⟨s + 1, 0, none⟩) (e6 (s + 1) (by omega))).trans cbl)
    have CVA : (V.alloc (.cells #[.string (S2.B x.1)] 9)).drew.cell? ⟨s, 2, none⟩ = some v := (World.cell?_of_block (a := ⟨s, 2, none⟩) (e6 s (by omega))).trans cv
    have hvs : ∃ A n c, v = .slice A n c := by
      rcases hown.2 with ⟨rfl, _⟩ | ⟨g, cap, cur, rfl, _⟩
      · exact ⟨_, _, _, rfl⟩
      · exact ⟨_, _, _, rfl⟩
    obtain ⟨A, n, c, rfl⟩ := hvs
    have hownA : Own V.drew (.slice A n c) (pre.map (·.1)) := own_base hown (Nat.zero_le _)
    have HOA := Lib.hid (show Own (V.alloc (.cells #[.string (S2.B x.1)] 9)).drew (.slice A n c) (pre.map (·.1)) from World.ownsRow.alloc (w := V) hownA _)
    have HSRC := Lib.hid (show S2.Row (V.alloc (.cells #[.string (S2.B x.1)] 9)).drew (V.alloc (.cells #[.string (S2.B x.1)] 9)).drew.heap.size (some ⟨V.heap.size, 0, none⟩) (S2.Ss [x.1]) from row_one V x.1)
    have HBD := Lib.hid (show (pre.map (·.1)).length + [x.1].length ≤ 16000000 by rw [List.length_map]; simp; omega)
    have HP := Lib.hid (fun v' w3 ho hg hpl => body_post (v := .slice A n c) (v' := v') (w3 := w3) (w1 := w1) (p := p) (f := f) x (.cells #[.string (S2.B x.1)] 9) hxv hown hbl hbv hold hsiz ho hg hpl)
    have hvg : ∀ g, (Value.slice A n c).ownBlock = some g → s + 4 ≤ g := fun g hg2 => (hown.lt g hg2).1
    have H3S := Lib.hid (show ∀ w3, (V.alloc (.cells #[.string (S2.B x.1)] 9)).drew.grownBy w3 (Value.slice A n c).ownBlock → w3.heap[s]? = some (.cells #[ptr p, .int .i64 f, .slice A n c] 69 (0, 0)) ∧ w3.heap[s + 1]? = some (.cells #[ptr s] 28 (0, 0)) ∧ w3.heap[s + 2]? = some (.cells #[.int .i64 (lastEnd pre : Nat)] 3 (0, 0)) from
      fun w3 hg => by
        have b : ∀ k, k < s + 4 → w3.heap[k]? = V.heap[k]? := fun k hk => (hg.block k (by show k < (V.alloc _).heap.size; rw [World.size_alloc]; omega) (fun e => by have := hvg k e.symm; omega)).trans (e6 k (by omega))
        exact ⟨(b _ (by omega)).trans hxv, (b _ (by omega)).trans hbl, (b _ (by omega)).trans hbv⟩)
    clear hxv hown hbl hbv hold hsiz hownA hvg e6 hN
    gi_wp2
    refine region_wide (S := (fun w' => w'.cell? ⟨s + 1, 0, none⟩ = some (ptr s))) (by kernel_rfl) (by rintro ⟨a', w', h'⟩; exact h') (by kernel_rfl) cbl (fun hHeld => ?_)
    refine wpAnyH_take (i := 0) (oi := ⟨_, _, _, _, _, _⟩) (v := ?_) rfl (by kernel_rfl) (by kernel_rfl) (by kernel_rfl) (fun _ _ _ h => h) (Or.inl ⟨by rfl, ?_⟩) (by assumption) ?_
    rotate_left
    · intro wz hSw
      try dsimp only at hSw
      go_simp
      try with_reducible rfl
    try simp only [Act.put, List.setIfInBounds_toArray, List.set_cons_zero, List.set_cons_succ]
    refine wpAnyH_take (i := 1) (oi := ⟨_, _, _, _, _, _⟩) (v := ?_) rfl (by kernel_rfl) (by kernel_rfl) (by kernel_rfl) (fun _ _ _ h => h) (Or.inl ⟨by rfl, ?_⟩) (by assumption) ?_
    rotate_left
    · intro wz hSw
      try dsimp only at hSw
      go_simp
      try with_reducible rfl
    try simp only [Act.put, List.setIfInBounds_toArray, List.set_cons_zero, List.set_cons_succ]
    refine wpAnyH_take (i := 2) (oi := ⟨_, _, _, _, _, _⟩) (v := ?_) rfl (by kernel_rfl) (by kernel_rfl) (by kernel_rfl) (fun _ _ _ h => h) (Or.inl ⟨by rfl, ?_⟩) (by assumption) ?_
    rotate_left
    · intro wz hSw
      try dsimp only at hSw
      go_simp
      try with_reducible rfl
    try simp only [Act.put, List.setIfInBounds_toArray, List.set_cons_zero, List.set_cons_succ]
    refine wpAnyH_take (i := 3) (oi := ⟨_, _, _, _, _, _⟩) (v := ?_) rfl (by kernel_rfl) (by kernel_rfl) (by kernel_rfl) (fun _ _ _ h => h) (Or.inl ⟨by rfl, ?_⟩) (by assumption) ?_
    rotate_left
    · intro wz hSw
      try dsimp only at hSw
      go_simp
      try with_reducible rfl
    try simp only [Act.put, List.setIfInBounds_toArray, List.set_cons_zero, List.set_cons_succ]
    refine wpAnyH_take (i := 5) (oi := ⟨_, _, _, _, _, _⟩) (v := ?_) rfl (by kernel_rfl) (by kernel_rfl) (by kernel_rfl) (fun _ _ _ h => h) (Or.inl ⟨by rfl, ?_⟩) (by assumption) ?_
    rotate_left
    · intro wz hSw
      try dsimp only at hSw
      go_simp
      try with_reducible rfl
    try simp only [Act.put, List.setIfInBounds_toArray, List.set_cons_zero, List.set_cons_succ]
    refine wpAnyH_take (i := 8) (oi := ⟨_, _, _, _, _, _⟩) (v := ?_) rfl (by kernel_rfl) (by kernel_rfl) (by kernel_rfl) (fun _ _ _ h => h) (Or.inl ⟨by rfl, ?_⟩) (by assumption) ?_
    rotate_left
    · intro wz hSw
      try dsimp only at hSw
      go_simp
      try with_reducible rfl
    try simp only [Act.put, List.setIfInBounds_toArray, List.set_cons_zero, List.set_cons_succ]
    refine wpAnyH_ready (rs := [4, 6]) (by kernel_rfl) (by simp) ?_
    refine AllReadyH.cons (o := ⟨_, _, _, _, _, _⟩) rfl (fun K hK => ?_) (AllReadyH.cons (o := ⟨_, _, _, _, _, _⟩) rfl (fun K hK => ?_) AllReadyH.nil)
    · go_simp
      refine hK.out _ _ cbl (fun hHeld => ?_)
      clear hK K
      try simp only [Act.put, List.setIfInBounds_toArray, List.set_cons_zero, List.set_cons_succ]
      refine wpAnyH_ready (rs := [6]) (by kernel_rfl) (by simp) ?_
      refine AllReadyH.cons (o := ⟨_, _, _, _, _, _⟩) rfl (fun K hK => ?_) AllReadyH.nil
      go_simp
      refine hK.out _ _ CBA.out (fun hHeld => ?_)
      clear hK K
      try simp only [Act.put, List.setIfInBounds_toArray, List.set_cons_zero, List.set_cons_succ]
      refine wpAnyH_ready (rs := [7]) (by kernel_rfl) (by simp) ?_
      refine AllReadyH.cons (o := ⟨_, _, _, _, _, _⟩) rfl (fun K hK => ?_) AllReadyH.nil
      refine step_app (lo := pre.map (·.1)) (ln := [x.1]) rfl _ _ rfl HOA.out HSRC.out rfl rfl rfl HBD.out ?_
      intro v' w3 ho hg hpl
      replace hpl : v'.ownBlock = (Value.slice A n c).ownBlock ∨ ∀ g, v'.ownBlock = some g → V.heap.size + 1 ≤ g := hpl.imp id fun h g hg2 => by have h2 := h g hg2; change (V.alloc _).heap.size ≤ g at h2; rwa [World.size_alloc] at h2
      have hP := HP.out _ _ ho hg hpl
      obtain ⟨A', n', c', rfl, hn', hc'⟩ := ho.sl
      clear hn' hc'
      have e3s := H3S.out _ hg
      have c3 : w3.cell? ⟨s, 2, none⟩ = some (.slice A n c) := S2.cell_at e3s.1 2
      have f3 : w3.frozen? ⟨s, 2, none⟩ = false := S2.free_at e3s.1 2
      have CB3 := Lib.hid (show w3.cell? ⟨s + 1, 0, none⟩ = some (ptr s) from S2.cell_at e3s.2.1 0)
      have CB4 := Lib.hid (show (w3.setCell ⟨s, 2, none⟩ (.slice A' n' c')).cell? ⟨s + 1, 0, none⟩ = some (ptr s) from (World.cell?_of_block (Below.heap_setCell _ _ _ _ (by show s + 1 ≠ s; omega))).trans CB3.out)
      have e5 : (w3.setCell ⟨s, 2, none⟩ (.slice A' n' c')).heap[s + 2]? = _ := (Below.heap_setCell _ _ _ _ (by show s + 2 ≠ s; omega)).trans e3s.2.2
      have c5 : (w3.setCell ⟨s, 2, none⟩ (.slice A' n' c')).cell? ⟨s + 2, 0, none⟩ = some (.int .i64 (lastEnd pre : Nat)) := S2.cell_at e5 0
      have f5 : (w3.setCell ⟨s, 2, none⟩ (.slice A' n' c')).frozen? ⟨s + 2, 0, none⟩ = false := S2.free_at e5 0
      have CB6 := Lib.hid (show ((w3.setCell ⟨s, 2, none⟩ (.slice A' n' c')).setCell ⟨s + 2, 0, none⟩ (.int .i64 (x.2 : Int))).cell? ⟨s + 1, 0, none⟩ = some (ptr s) from (World.cell?_of_block (Below.heap_setCell _ _ _ _ (by show s + 1 ≠ s + 2; omega))).trans CB4.out)
      have HPO := Lib.hid hP
      clear ho hg hpl hP e3s e5 hHeld
      refine hK.out _ _ CB3.out (fun hHeld => ?_)
      clear hK K
      try simp only [Act.put, List.setIfInBounds_toArray, List.set_cons_zero, List.set_cons_succ]
      refine wpAnyH_take (i := 9) (oi := ⟨_, _, _, _, _, _⟩) (v := ?_) rfl (by kernel_rfl) (by kernel_rfl) (by kernel_rfl) (fun _ _ _ h => h) (Or.inl ⟨by rfl, ?_⟩) (by assumption) ?_
      rotate_left
      · intro wz hSw
        try dsimp only at hSw
        go_simp
        try with_reducible rfl
      try simp only [Act.put, List.setIfInBounds_toArray, List.set_cons_zero, List.set_cons_succ]
      refine wpAnyH_take (i := 10) (oi := ⟨_, _, _, _, _, _⟩) (v := ?_) rfl (by kernel_rfl) (by kernel_rfl) (by kernel_rfl) (fun _ _ _ h => h) (Or.inl ⟨by rfl, ?_⟩) (by assumption) ?_
      rotate_left
      · intro wz hSw
        try dsimp only at hSw
        go_simp
        try with_reducible rfl
      try simp only [Act.put, List.setIfInBounds_toArray, List.set_cons_zero, List.set_cons_succ]
      refine wpAnyH_ready (rs := [11]) (by kernel_rfl) (by simp) ?_
      refine AllReadyH.cons (o := ⟨_, _, _, _, _, _⟩) rfl (fun K hK => ?_) AllReadyH.nil
      go_simp
      refine hK.out _ _ CB4.out (fun hHeld => ?_)
      clear hK K
      try simp only [Act.put, List.setIfInBounds_toArray, List.set_cons_zero, List.set_cons_succ]
      refine wpAnyH_ready (rs := [12]) (by kernel_rfl) (by simp) ?_
      refine AllReadyH.cons (o := ⟨_, _, _, _, _, _⟩) rfl (fun K hK => ?_) AllReadyH.nil
      go_simp
      refine hK.out _ _ CB6.out (fun hHeld => ?_)
      clear hK K
      try simp only [Act.put, List.setIfInBounds_toArray, List.set_cons_zero, List.set_cons_succ]
      refine wpAnyH_done (by kernel_rfl) ?_ _
      exact HPO.out
    · go_simp
      refine hK.out _ _ CBA.out (fun hHeld => ?_)
      clear hK K
      try simp only [Act.put, List.setIfInBounds_toArray, List.set_cons_zero, List.set_cons_succ]
      refine wpAnyH_ready (rs := [4]) (by kernel_rfl) (by simp) ?_
      refine AllReadyH.cons (o := ⟨_, _, _, _, _, _⟩) rfl (fun K hK => ?_) AllReadyH.nil
      go_simp
      refine hK.out _ _ CBA.out (fun hHeld => ?_)
      clear hK K
      try simp only [Act.put, List.setIfInBounds_toArray, List.set_cons_zero, List.set_cons_succ]
      refine wpAnyH_ready (rs := [7]) (by kernel_rfl) (by simp) ?_
      refine AllReadyH.cons (o := ⟨_, _, _, _, _, _⟩) rfl (fun K hK => ?_) AllReadyH.nil
      refine step_app (lo := pre.map (·.1)) (ln := [x.1]) rfl _ _ rfl HOA.out HSRC.out rfl rfl rfl HBD.out ?_
      intro v' w3 ho hg hpl
      replace hpl : v'.ownBlock = (Value.slice A n c).ownBlock ∨ ∀ g, v'.ownBlock = some g → V.heap.size + 1 ≤ g := hpl.imp id fun h g hg2 => by have h2 := h g hg2; change (V.alloc _).heap.size ≤ g at h2; rwa [World.size_alloc] at h2
      have hP := HP.out _ _ ho hg hpl
      obtain ⟨A', n', c', rfl, hn', hc'⟩ := ho.sl
      clear hn' hc'
      have e3s := H3S.out _ hg
      have c3 : w3.cell? ⟨s, 2, none⟩ = some (.slice A n c) := S2.cell_at e3s.1 2
      have f3 : w3.frozen? ⟨s, 2, none⟩ = false := S2.free_at e3s.1 2
      have CB3 := Lib.hid (show w3.cell? ⟨s + 1, 0, none⟩ = some (ptr s) from S2.cell_at e3s.2.1 0)
      have CB4 := Lib.hid (show (w3.setCell ⟨s, 2, none⟩ (.slice A' n' c')).cell? ⟨s + 1, 0, none⟩ = some (ptr s) from (World.cell?_of_block (Below.heap_setCell _ _ _ _ (by show s + 1 ≠ s; omega))).trans CB3.out)
      have e5 : (w3.setCell ⟨s, 2, none⟩ (.slice A' n' c')).heap[s + 2]? = _ := (Below.heap_setCell _ _ _ _ (by show s + 2 ≠ s; omega)).trans e3s.2.2
      have c5 : (w3.setCell ⟨s, 2, none⟩ (.slice A' n' c')).cell? ⟨s + 2, 0, none⟩ = some (.int .i64 (lastEnd pre : Nat)) := S2.cell_at e5 0
      have f5 : (w3.setCell ⟨s, 2, none⟩ (.slice A' n' c')).frozen? ⟨s + 2, 0, none⟩ = false := S2.free_at e5 0
      have CB6 := Lib.hid (show ((w3.setCell ⟨s, 2, none⟩ (.slice A' n' c')).setCell ⟨s + 2, 0, none⟩ (.int .i64 (x.2 : Int))).cell? ⟨s + 1, 0, none⟩ = some (ptr s) from (World.cell?_of_block (Below.heap_setCell _ _ _ _ (by show s + 1 ≠ s + 2; omega))).trans CB4.out)
      have HPO := Lib.hid hP
      clear ho hg hpl hP e3s e5 hHeld
      refine hK.out _ _ CB3.out (fun hHeld => ?_)
      clear hK K
      try simp only [Act.put, List.setIfInBounds_toArray, List.set_cons_zero, List.set_cons_succ]
      refine wpAnyH_take (i := 9) (oi := ⟨_, _, _, _, _, _⟩) (v := ?_) rfl (by kernel_rfl) (by kernel_rfl) (by kernel_rfl) (fun _ _ _ h => h) (Or.inl ⟨by rfl, ?_⟩) (by assumption) ?_
      rotate_left
      · intro wz hSw
        try dsimp only at hSw
        go_simp
        try with_reducible rfl
      try simp only [Act.put, List.setIfInBounds_toArray, List.set_cons_zero, List.set_cons_succ]
      refine wpAnyH_take (i := 10) (oi := ⟨_, _, _, _, _, _⟩) (v := ?_) rfl (by kernel_rfl) (by kernel_rfl) (by kernel_rfl) (fun _ _ _ h => h) (Or.inl ⟨by rfl, ?_⟩) (by assumption) ?_
      rotate_left
      · intro wz hSw
        try dsimp only at hSw
        go_simp
        try with_reducible rfl
      try simp only [Act.put, List.setIfInBounds_toArray, List.set_cons_zero, List.set_cons_succ]
      refine wpAnyH_ready (rs := [11]) (by kernel_rfl) (by simp) ?_
      refine AllReadyH.cons (o := ⟨_, _, _, _, _, _⟩) rfl (fun K hK => ?_) AllReadyH.nil
      go_simp
      refine hK.out _ _ CB4.out (fun hHeld => ?_)
      clear hK K
      try simp only [Act.put, List.setIfInBounds_toArray, List.set_cons_zero, List.set_cons_succ]
      refine wpAnyH_ready (rs := [12]) (by kernel_rfl) (by simp) ?_
      refine AllReadyH.cons (o := ⟨_, _, _, _, _, _⟩) rfl (fun K hK => ?_) AllReadyH.nil
      go_simp
      refine hK.out _ _ CB6.out (fun hHeld => ?_)
      clear hK K
      try simp only [Act.put, List.setIfInBounds_toArray, List.set_cons_zero, List.set_cons_succ]
      refine wpAnyH_done (by kernel_rfl) ?_ _
      exact HPO.out
  case done =>
    rintro K xs V hD rfl hI hK
    obtain ⟨⟨v, hxv, hown⟩, hbl, hbv, hold, hsiz⟩ := hI
    rw [marks_rows] at hown
    rw [lastEnd_marks] at hbv
    obtain ⟨R, hR⟩ : ∃ R, R = (rows c4 text).1 := ⟨_, rfl⟩
    have HCUT := Lib.hid (open1_cut HTE.out)
    rw [← hR] at hown hbv HCUT
    obtain ⟨n, hn⟩ : ∃ n, n = (records c4 R).length := ⟨_, rfl⟩
    rw [← hn] at hbv HCUT
    have hs := HS.out
    have hsz := HSZ.out
    have hXs : ∀ k, X k → k < s := fun k hk => by have := H1.out.lt k hk; omega
    have hKl : K < V.heap.size := (Array.getElem?_eq_some_iff.1 hK).1
    have hvg : ∀ g, v.ownBlock = some g → s + 4 ≤ g ∧ g < V.heap.size ∧ g ≠ K := fun g hg => by
      have h2 := hown.lt g hg
      refine ⟨h2.1, h2.2, fun e => ?_⟩
      rcases hown.2 with ⟨rfl, _⟩ | ⟨g', cap, cur, rfl, _, hh, _⟩
      · cases hg
      · simp only [Value.ownBlock, Option.some.injEq] at hg
        subst hg
        subst e
        rw [hK] at hh
        cases hh
    obtain ⟨Y, hY⟩ : ∃ Y : Nat → Prop, Y = fun k => plus X s v k ∨ k = s + 1 ∨ k = s + 2 ∨ k = K := ⟨_, rfl⟩
    have hYK : Y K := by rw [hY]; exact .inr (.inr (.inr rfl))
    have hYp : ∀ k, plus X s v k → Y k := fun k hk => by rw [hY]; exact .inl hk
    have hY1 : Y (s + 1) := by rw [hY]; exact .inr (.inl rfl)
    have hnK : ∀ k, plus X s v k → k ≠ K := fun k hk e => by
      rcases hk with hk | rfl | hk
      · have := hXs k hk; omega
      · omega
      · exact (hvg k hk).2.2 e
    have hdk : Dk Y V p D := H1.out.more (by rw [← hs]; exact hold) fun k hk => by
      rw [hY] at hk
      rcases hk with (hk | rfl | hk) | rfl | rfl | rfl
      · exact .inl hk
      · exact .inr ⟨by omega, by omega⟩
      · have := hvg k hk
        exact .inr ⟨by omega, this.2.1⟩
      · exact .inr ⟨by omega, by omega⟩
      · exact .inr ⟨by omega, by omega⟩
      · exact .inr ⟨by omega, hKl⟩
    have hfin : ∀ Vk Dz, Dk Y Vk p Dz → Fr Y V Vk → Vk.heap[K]? = some (.deferred (some [])) ∧ Vk.cell? ⟨s + 1, 0, none⟩ = some (ptr s) ∧ Dk X (Vk.putObj K (.deferred none)) p Dz ∧ Fr X w (Vk.putObj K (.deferred none)) ∧ Lg X (Vk.putObj K (.deferred none)) s p f R Dz := by
      intro Vk Dz hd hf
      have hput : ∀ k, k ≠ K → (Vk.putObj K (.deferred none)).heap[k]? = Vk.heap[k]? := fun k hk => World.putObj_heap_other hk
      have hmv : ∀ Z : Nat → Prop, (∀ k, Z k → plus X s v k) → Dk Z (Vk.putObj K (.deferred none)) p Dz := fun Z hZ => dk_move hd (fun k _ hn => hput k (fun e => hn (e ▸ hYK))) (fun k hk => by rw [World.putObj_size]; exact hd.lt k (hYp k (hZ k hk))) (fun k hk => .inl (hYp k (hZ k hk)))
      have hkeep : ∀ k, plus X s v k → (Vk.putObj K (.deferred none)).heap[k]? = V.heap[k]? := fun k hk => (hput k (hnK k hk)).trans (hf.block k (hYp k hk))
      refine ⟨(hf.block K hYK).trans hK, (hf.cell (p := ⟨s + 1, 0, none⟩) hY1).trans (S2.cell_at hbl 0), hmv X (fun k hk => .inl hk), ?_, v, ⟨⟨(hkeep s (.inr (.inl rfl))).trans hxv, S9.Dk.own_keep (own_base hown (Nat.zero_le _)) (fun g hg => hkeep g (.inr (.inr hg))), fun hx => by have := hXs s hx; omega, fun g hg hx => by have := hXs g hx; have := (hvg g hg).1; omega, fun e => by have := (hvg s e).1; omega⟩, hmv _ (fun k hk => hk)⟩⟩
      exact (F1.out.trans (Fr.of_below hold hXs)).trans ⟨hf.os, hf.tape, hf.output, by rw [World.putObj_size]; exact hf.size, fun k hk => hkeep k (.inl hk)⟩
    have HFIN := Lib.hid hfin
    have HR3 := Lib.hid hR
    have cv : V.cell? ⟨s + 2, 0, none⟩ = some (.int .i64 (n : Int)) := S2.cell_at hbv 0
    have HDK := Lib.hid hdk
    clear hfin hdk hnK hY1 hYp hYK hY hvg hKl hXs hsz hs hxv hown hbl hbv hold hsiz hD hK hR hn HS HSZ HI0 HIT H1 F1 HLEN hlow htop
    gi_wp2_with fail
    refine ⟨trivial, ?_⟩
    refine (callsIn_wide.2 (shorten_any Y p D f n V HDK.out)).mono ?_
    rintro e V1 ⟨rfl, h1, f1⟩
    rw [← HCUT.out] at h1 ⊢
    obtain ⟨z1, D1, hp1⟩ : ∃ z D1, open1 c4 D f = (z, D1) := ⟨_, _, rfl⟩
    rw [hp1] at h1 ⊢
    dsimp only at h1 ⊢
    have HP1 := Lib.hid hp1
    have FY := Lib.hid f1
    replace HDK := Lib.hid h1
    clear h1 f1 hp1 cv HCUT
    by_cases hz : z1 = 0
    case neg =>
      have E := Lib.hid (HRL.out.trans (lopen_1 hf0 hf6 HTE.out HP1.out hz))
      have hz' : (z1 == 0) = false := by simpa using hz
      have HF := Lib.hid (HFIN.out V1 D1 HDK.out FY.out)
      clear hz HP1 HFIN HDK FY HR3
      gi_wp2
      refine ⟨by simp, .inl ⟨_, _, rfl, run_takeDeferred HF.out.1, ?_⟩⟩
      exact ⟨_, results_tmp2 rfl _ _ _, by rw [E.out]; exact ⟨rfl, HF.out.2.2.1⟩, HF.out.2.2.2.1⟩
    subst hz
    have hwf : IntKind.i64.wrap (f + 1) = f + 1 := IntWalk.i64_in _ (by omega)
    gi_wp2_with fail
    refine ⟨trivial, ?_⟩
    refine (callsIn_wide.2 (shorten_any Y p D1 (f + 1) 0 V1 HDK.out)).mono ?_
    rintro e V2 ⟨rfl, h1, f1⟩
    rw [← open2_cut] at h1 ⊢
    obtain ⟨z2, D2, hp2⟩ : ∃ z D2, open2 (0, D1) f = (z, D2) := ⟨_, _, rfl⟩
    rw [hp2] at h1 ⊢
    dsimp only at h1 ⊢
    have HP2 := Lib.hid hp2
    replace FY := Lib.hid (FY.out.trans f1)
    replace HDK := Lib.hid h1
    clear h1 f1 hp2 hwf
    by_cases hz : z2 = 0
    case neg =>
      have E := Lib.hid (HRL.out.trans (lopen_2 hf0 hf6 HTE.out HP1.out HP2.out hz))
      have hz' : (z2 == 0) = false := by simpa using hz
      have HF := Lib.hid (HFIN.out V2 D2 HDK.out FY.out)
      clear hz HP1 HP2 HFIN HDK FY HR3
      gi_wp2
      refine ⟨by simp, .inl ⟨_, _, rfl, run_takeDeferred HF.out.1, ?_⟩⟩
      exact ⟨_, results_tmp2 rfl _ _ _, by rw [E.out]; exact ⟨rfl, HF.out.2.2.1⟩, HF.out.2.2.2.1⟩
    subst hz
    gi_wp2_with fail
    refine ⟨trivial, ?_⟩
    refine (callsIn_wide.2 (S9.Dk.Flush_any Y p D2 f V2 HDK.out)).mono ?_
    rintro e V3 ⟨rfl, h1, f1⟩
    obtain ⟨z3, D3, hp3⟩ : ∃ z D3, D2.flush f = (z, D3) := ⟨_, _, rfl⟩
    rw [hp3] at h1 ⊢
    dsimp only at h1 ⊢
    have HP3 := Lib.hid hp3
    replace FY := Lib.hid (FY.out.trans f1)
    replace HDK := Lib.hid h1
    clear h1 f1 hp3
    by_cases hz : z3 = 0
    case neg =>
      have E := Lib.hid (HRL.out.trans (lopen_3 hf0 hf6 HTE.out HP1.out HP2.out HP3.out hz))
      have hz' : (z3 == 0) = false := by simpa using hz
      have HF := Lib.hid (HFIN.out V3 D3 HDK.out FY.out)
      clear hz HP1 HP2 HP3 HFIN HDK FY HR3
      gi_wp2
      refine ⟨by simp, .inl ⟨_, _, rfl, run_takeDeferred HF.out.1, ?_⟩⟩
      exact ⟨_, results_tmp2 rfl _ _ _, by rw [E.out]; exact ⟨rfl, HF.out.2.2.1⟩, HF.out.2.2.2.1⟩
    subst hz
    have E := Lib.hid (HRL.out.trans (lopen_4 hf0 hf6 HTE.out HP1.out HP2.out HP3.out))
    have HF := Lib.hid (HFIN.out V3 D3 HDK.out FY.out)
    have cb := HF.out.2.1
    clear HP1 HP2 HP3 HFIN HDK FY
    gi_wp2
    refine ⟨by simp, .inl ⟨_, _, rfl, run_takeDeferred HF.out.1, ?_⟩⟩
    exact ⟨_, results_tmp2 rfl _ _ _, by rw [E.out, ← HR3.out]; exact ⟨s, rfl, HF.out.2.2.2.2⟩, HF.out.2.2.2.1⟩
/-- Open, at every file number that fits an int. -/
theorem Open_any (X : Nat → Prop) (p : Nat) (D : MD) (f : Int) (w : World) (h : Dk X w p D) : Calls Try.prog 10 #[ptr p, .int .i64 f] w fun e w' => OpenRes X p f (lopen c4 D f) e w' ∧ Fr X w w' := by
  by_cases hf : f < 0 ∨ 6 < f
  · exact Open_out X p D f hf w h
  · exact Open_in X p D f (by omega) (by omega) w h
end Wl
end Go.Proofs.Ytihanhdepijijaa
