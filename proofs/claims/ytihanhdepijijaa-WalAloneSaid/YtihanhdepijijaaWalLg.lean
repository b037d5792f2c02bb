/-
  Layer 10 (wal): a log in a world, over a machine; shorten, Flush, Len, All.
-/
import Derived.Test.YtihanhdepijijaaWalSum
import Derived.Test.YtihanhdepijijaaWalOpen
import Derived.Test.YtihanhdepijijaaShelf
import Derived.Deep.RegionHeld3
namespace Go.Proofs.Ytihanhdepijijaa
open Go.RowKit
namespace Wl
open S9.Dk (Dk Fr MD By)
attribute [local go_sem] S2.B_size S2.B_drop' S2.B_take S2.B_list S2.B_app

/-! ### A log in a world -/
/-- Block x holds a log over the machine at p, with file f and the slice v of the rows R; all of it outside X. -/
structure Lo (X : Nat → Prop) (w : World) (x p : Nat) (f : Int) (v : Value) (R : List Str) : Prop where
  blk : w.heap[x]? = some (.cells #[ptr p, .int .i64 f, v] 69 (0, 0))
  own : Own w v R
  xX : ¬ X x
  vX : ∀ g, v.ownBlock = some g → ¬ X g
  vx : v.ownBlock ≠ some x
/-- What is the log's. -/
def ext (x : Nat) (v : Value) (k : Nat) : Prop := k = x ∨ v.ownBlock = some k
/-- X and what is the log's. -/
def plus (X : Nat → Prop) (x : Nat) (v : Value) (k : Nat) : Prop := X k ∨ ext x v k
structure Lv (X : Nat → Prop) (w : World) (x p : Nat) (f : Int) (v : Value) (R : List Str) (D : MD) : Prop where
  log : Lo X w x p f v R
  disk : Dk (plus X x v) w p D
def Lg (X : Nat → Prop) (w : World) (x p : Nat) (f : Int) (R : List Str) (D : MD) : Prop := ∃ v, Lv X w x p f v R D
section
variable {X Y : Nat → Prop} {w w' : World} {x p : Nat} {f : Int} {v : Value} {R : List Str} {D : MD}
theorem Lo.x_lt (h : Lo X w x p f v R) : x < w.heap.size := (Array.getElem?_eq_some_iff.1 h.blk).1
theorem Lo.ext_lt (h : Lo X w x p f v R) {k : Nat} (hk : ext x v k) : k < w.heap.size := by
  rcases hk with rfl | hk
  · exact h.x_lt
  · exact h.own.lt hk
theorem Lo.fr (h : Lo X w x p f v R) (hf : Fr (plus X x v) w w') : Lo X w' x p f v R :=
  ⟨(hf.block x (.inr (.inl rfl))).trans h.blk, h.own.keep fun g hg => hf.block g (.inr (.inr hg)), h.xX, h.vX, h.vx⟩
theorem Lo.keep (h : Lo X w x p f v R) (hk : ∀ k, ext x v k → w'.heap[k]? = w.heap[k]?) : Lo X w' x p f v R :=
  ⟨(hk x (.inl rfl)).trans h.blk, h.own.keep fun g hg => hk g (.inr hg), h.xX, h.vX, h.vx⟩
theorem Lo.into (h : Lo X w x p f v R) (hY : ∀ k, ext x v k → ¬ Y k) : Lo Y w x p f v R :=
  ⟨h.blk, h.own, hY x (.inl rfl), fun g hg => hY g (.inr hg), h.vx⟩
theorem Lo.c0 (h : Lo X w x p f v R) : w.cell? ⟨x, 0, none⟩ = some (ptr p) := cell_of_row _ _ _ _ _ _ h.blk
theorem Lo.c1 (h : Lo X w x p f v R) : w.cell? ⟨x, 1, none⟩ = some (.int .i64 f) := cell_of_row _ _ _ _ _ _ h.blk
theorem Lo.c2 (h : Lo X w x p f v R) : w.cell? ⟨x, 2, none⟩ = some v := cell_of_row _ _ _ _ _ _ h.blk
theorem Lv.sub (X : Nat → Prop) (x : Nat) (v : Value) : ∀ k, X k → plus X x v k := fun _ h => .inl h
theorem Lv.lt (h : Lv X w x p f v R D) : ∀ k, X k → k < w.heap.size := fun k hk => h.disk.lt k (.inl hk)
theorem Lv.fr (h : Lv X w x p f v R D) {D' : MD} (hf : Fr (plus X x v) w w') (hd : Dk (plus X x v) w' p D') : Lv X w' x p f v R D' := ⟨h.log.fr hf, hd⟩
theorem Lg.lt (h : Lg X w x p f R D) : ∀ k, X k → k < w.heap.size := by
  obtain ⟨v, hv⟩ := h
  exact hv.lt
theorem Lg.ok (h : Lg X w x p f R D) : D.Ok := by
  obtain ⟨v, hv⟩ := h
  exact hv.disk.ok
theorem Lv.more (h : Lv X w x p f v R D) (hb : Below w.heap.size w w') (hY : ∀ k, Y k → X k ∨ (w.heap.size ≤ k ∧ k < w'.heap.size)) : Lv Y w' x p f v R D := by
  have hn : ∀ k, ext x v k → ¬ Y k := fun k hk hy => by
    have hl := h.log.ext_lt hk
    rcases hY k hy with hx | hx
    · rcases hk with rfl | hk
      · exact h.log.xX hx
      · exact h.log.vX k hk hx
    · omega
  refine ⟨(h.log.keep fun k hk => hb.block k (h.log.ext_lt hk)).into hn, h.disk.more hb fun k hk => ?_⟩
  rcases hk with hk | hk
  · rcases hY k hk with hx | hx
    · exact .inl (.inl hx)
    · exact .inr hx
  · exact .inl (.inr hk)
theorem Lg.more (h : Lg X w x p f R D) (hb : Below w.heap.size w w') (hY : ∀ k, Y k → X k ∨ (w.heap.size ≤ k ∧ k < w'.heap.size)) : Lg Y w' x p f R D := by
  obtain ⟨v, hv⟩ := h
  exact ⟨v, hv.more hb hY⟩
theorem Lg.step (h : Lg X w x p f R D) (hb : Below w.heap.size w w') : Lg X w' x p f R D := h.more hb fun _ hk => .inl hk
theorem Lg.alloc (h : Lg X w x p f R D) (o : Obj) : Lg X (w.alloc o) x p f R D := h.step ((Below.refl _ _).alloc (Nat.le_refl _) o)
theorem Lg.drew (h : Lg X w x p f R D) : Lg X w.drew x p f R D := h.step (Below.refl _ _).drew
theorem Lg.weaken (h : Lg X w x p f R D) (hY : ∀ k, Y k → X k) : Lg Y w x p f R D := h.more (Below.refl _ _) fun k hk => .inl (hY k hk)
/-- The rows' slice turned: of the blocks one alone has been written whose row it was; the new slice lies in that row, or in a block that is new. -/
theorem Lv.set_rows (h : Lv X w x p f v R D) {w1 : World} {v' : Value} {R' : List Str} (ho : Own w1 v' R') (hg : w.grownBy w1 v.ownBlock) (hn : v'.ownBlock = v.ownBlock ∨ ∀ g, v'.ownBlock = some g → w.heap.size ≤ g) :
    Lv X (w1.setCell ⟨x, 2, none⟩ v') x p f v' R' D ∧ Fr X w (w1.setCell ⟨x, 2, none⟩ v') := by
  have hxl := h.log.x_lt
  have hx1 : w1.heap[x]? = some (.cells #[ptr p, .int .i64 f, v] 69 (0, 0)) := (hg.block x hxl (fun e => h.log.vx e.symm)).trans h.log.blk
  have hs : ∀ k, k ≠ x → (w1.setCell ⟨x, 2, none⟩ v').heap[k]? = w1.heap[k]? := fun k hk => Below.heap_setCell _ _ _ _ hk
  have hv'x : v'.ownBlock ≠ some x := by
    intro e
    rcases hn with h1 | h1
    · exact h.log.vx (h1.symm.trans e)
    · have := h1 _ e; omega
  have hv'X : ∀ g, v'.ownBlock = some g → ¬ X g := by
    intro g e hX
    rcases hn with h1 | h1
    · exact h.log.vX g (h1.symm.trans e) hX
    · have := h1 _ e; have := h.lt g hX; omega
  have hlog : Lo X (w1.setCell ⟨x, 2, none⟩ v') x p f v' R' := by
    refine ⟨?_, ho.keep fun g hg2 => hs g (fun e => hv'x (by rw [hg2, e])), h.log.xX, hv'X, hv'x⟩
    rw [heap_setCell_same w1 x 2 _ _ v' hx1]
    rfl
  have hkeep : ∀ k, k < w.heap.size → ¬ ext x v k → (w1.setCell ⟨x, 2, none⟩ v').heap[k]? = w.heap[k]? := fun k hk hne =>
    (hs k (fun e => hne (.inl e))).trans (hg.block k hk (fun e => hne (.inr e.symm)))
  obtain ⟨hok, vs, hv⟩ := h.disk
  have hfar : ∀ k, (k = p ∨ ∃ i, i < 8 ∧ (vs i).ownBlock = some k) → k < w.heap.size ∧ ¬ plus X x v k := fun k hk => by
    rcases hk with rfl | ⟨i, hi, hk⟩
    · exact ⟨hv.p_lt, hv.pX⟩
    · exact ⟨S9.Dk.own_lt (hv.own i hi) hk, hv.offX i hi k hk⟩
  have hk2 : ∀ k, (k = p ∨ ∃ i, i < 8 ∧ (vs i).ownBlock = some k) → (w1.setCell ⟨x, 2, none⟩ v').heap[k]? = w.heap[k]? := fun k hk => hkeep k (hfar k hk).1 (fun e => (hfar k hk).2 (.inr e))
  have hn2 : ∀ k, (k = p ∨ ∃ i, i < 8 ∧ (vs i).ownBlock = some k) → ¬ plus X x v' k := fun k hk e => by
    have ⟨h1, h2⟩ := hfar k hk
    rcases e with e | e | e
    · exact h2 (.inl e)
    · exact h2 (.inr (.inl e))
    · rcases hn with h3 | h3
      · exact h2 (.inr (.inr (h3.symm.trans e)))
      · have := h3 _ e; omega
  have hsz : w.heap.size ≤ (w1.setCell ⟨x, 2, none⟩ v').heap.size := by simpa [World.setCell] using hg.size
  refine ⟨⟨hlog, hok, vs, ?_, fun i hi => S9.Dk.own_keep (hv.own i hi) (fun g hg2 => hk2 g (.inr ⟨i, hi, hg2⟩)), hv.offp, fun i hi g hg2 => hn2 g (.inr ⟨i, hi, hg2⟩), hv.apart, hn2 p (.inl rfl), fun k hk => ?_⟩, ?_⟩
  · obtain ⟨cur, h1, h2⟩ := hv.blk
    exact ⟨cur, (hk2 p (.inl rfl)).trans h1, h2⟩
  · rcases hk with hk | hk
    · exact Nat.lt_of_lt_of_le (h.lt k hk) hsz
    · exact hlog.ext_lt hk
  · exact ⟨hg.os, hg.tape, hg.output, hsz, fun k hk => hkeep k (h.lt k hk) (fun e => by
      rcases e with rfl | e
      · exact h.log.xX hk
      · exact h.log.vX k e hk)⟩
end

/-! ### The machine's calls, through shorten -/
def cutTo (D : MD) (f : Int) (n : Nat) : Int × MD := if D.size f ≤ n then (0, D) else D.cut f n
set_option maxHeartbeats 1000000 in
set_option maxRecDepth 100000 in
theorem shorten_any (X : Nat → Prop) (p : Nat) (D : MD) (f : Int) (n : Nat) (w : World) (h : Dk X w p D) :
    Calls Try.prog 30 #[ptr p, .int .i64 f, .int .i64 (n : Int)] w fun e w' => e = .returned (.int .i64 (cutTo D f n).1) ∧ Dk X w' p (cutTo D f n).2 ∧ Fr X w w' := by
  have K1 := Lib.hid (S9.Dk.size_any X p D f w h)
  have K2 := Lib.hid (S9.Dk.Cut_any X p D f n w h)
  have H := Lib.hid h
  by_cases hc : D.size f ≤ n
  · have R := Lib.hid (show cutTo D f n = (0, D) from if_pos hc)
    obtain ⟨z, hz⟩ : ∃ z, z = D.size f := ⟨_, rfl⟩
    rw [← hz] at K1 hc
    have hc' : (z : Int) ≤ (n : Int) := by omega
    clear hc h hz K2
    go_enter Try.func30, Try.ntmps30
    go_wp2_with fail
    refine K1.out.mono ?_
    rintro e w1 ⟨rfl, rfl⟩
    clear K1
    go_wp2
    go_ret
    exact ⟨by rw [R.out]; rfl, by rw [R.out]; exact H.out, Fr.refl _ _⟩
  · have R := Lib.hid (show cutTo D f n = D.cut f n from if_neg hc)
    obtain ⟨z, hz⟩ : ∃ z, z = D.size f := ⟨_, rfl⟩
    rw [← hz] at K1 hc
    have hc' : ¬ (z : Int) ≤ (n : Int) := by omega
    clear hc h hz
    go_enter Try.func30, Try.ntmps30
    go_wp2_with fail
    refine K1.out.mono ?_
    rintro e w1 ⟨rfl, rfl⟩
    clear K1
    go_wp2_with fail
    refine K2.out.mono ?_
    rintro e w2 ⟨rfl, h1, f1⟩
    have H1 := Lib.hid h1
    have F1 := Lib.hid f1
    clear h1 f1 K2
    go_wp2
    go_ret
    exact ⟨by rw [R.out]; rfl, by rw [R.out]; exact H1.out, F1.out⟩

set_option maxHeartbeats 1000000 in
set_option maxRecDepth 100000 in
theorem Len_any (X : Nat → Prop) (x p : Nat) (f : Int) (R : List Str) (D : MD) (w : World) (h : Lg X w x p f R D) :
    Calls Try.prog 27 #[ptr x] w fun e w' => e = .returned (.int .i64 (R.length : Nat)) ∧ w = w' := by
  obtain ⟨v, hv⟩ := h
  obtain ⟨A, n, c, rfl, hn, hc⟩ := hv.log.own.sl
  have c2 := hv.log.c2
  rw [← hn]
  clear hv hn hc
  go_enter Try.func27, Try.ntmps27
  go_wp2
  go_ret
  exact ⟨rfl, rfl⟩

set_option maxHeartbeats 1000000 in
set_option maxRecDepth 100000 in
theorem Clone_any (A : Option Addr) (n c : Nat) (l : List Str) (w : World) (hr : S2.Row w w.heap.size A (S2.Ss l)) (hn : n = l.length) (hl : l.length ≤ 16000000) :
    Calls Try.prog 34 #[.slice A n c] w fun e w' => ∃ v, e = .returned v ∧ Own w' v l ∧ (∀ g, v.ownBlock = some g → w.heap.size ≤ g) ∧ Below w.heap.size w w' := by
  have hnil := fun (w : World) (a : Option Addr) (n c : Nat) => Lib.run_eql_slice_nil (P := Try.prog) w 32 9 a n c 0 0 Try.underlying32
  obtain ⟨i0, hi, hz0, hz1, hz2⟩ := info_parts infoStr
  cases A with
  | none =>
    have h0 : l = [] := by
      rcases hr with e | ⟨b, e, _⟩
      · exact List.eq_nil_of_length_eq_zero (by rw [← S2.Ss_length, e]; rfl)
      · cases e
    subst h0
    clear hi hz0 hz1 hz2 hl hr
    go_enter Try.func34, Try.ntmps34
    go_wp2
    go_ret
    exact ⟨_, rfl, Own.nil _, fun g hg => (by cases hg), Below.refl _ _⟩
  | some a =>
    have hown : (w.alloc (.cells #[] 9)).ownsRow w.heap.size 9 1 (.slice (some ⟨w.heap.size, 0, none⟩) 0 0) 0 [] := World.ownsRow_made w #[] 0 (Nat.le_refl _) (Nat.zero_le _) rfl
    have hsrc : ∀ (j : Nat) (u : Value), (S2.Ss l)[j]? = some u → (w.alloc (.cells #[] 9)).cell? (a.add j) = some u := fun j u hu => by
      rcases hr with e | ⟨b, e, hb, hc⟩
      · rw [e] at hu; simp at hu
      · cases e
        rw [World.cell?_of_block (w := w) (a := a.add j) (by rw [S2.add_block]; exact Below.heap_alloc _ _ _ hb)]
        exact hc j u hu
    have hlen : (S2.Ss l).length = l.length := S2.Ss_length l
    have hone := Ss_one l
    obtain ⟨ul, hul⟩ : ∃ ul, ul = S2.Ss l := ⟨_, rfl⟩
    rw [← hul] at hsrc hlen hone
    have HU := Lib.hid hul
    rw [← hn] at hlen hl
    have HS := Lib.hid hsrc
    have HL := Lib.hid (show ul.length = n * 1 by omega)
    have HO := Lib.hid hone
    have HN := Lib.hid hn
    have HL2 := Lib.hid hl
    have HW := Lib.hid hown
    clear hsrc hlen hone hn hl hown hul hr
    go_enter Try.func34, Try.ntmps34
    go_wp2_with (at_builtin; refine wpList_append_own _ rfl _ _ 32 rfl w.heap.size 9 i0 (.string ⟨#[]⟩) 1 16 Try.underlying32 hi hz0 hz1 hz2 rfl (by decide) _ _ _ rfl HW.out a n c ul rfl HL.out HS.out HO.out (by unfold maxLen; have := HL2.out; omega) (by have := HL2.out; omega) (by simp) ?_)
    intro v' w1 hown' hgrow _
    have hby : Own w1 v' l := by
      have h1 := own_base hown' (Nat.zero_le _)
      rw [HU.out, HN.out] at h1
      exact h1
    have R := Lib.hid (show Own w1 v' l ∧ (∀ g, v'.ownBlock = some g → w.heap.size ≤ g) ∧ Below w.heap.size w w1 from ⟨hby, fun g hg => (hown'.lt g hg).1, (((Below.refl w.heap.size w).alloc (Nat.le_refl _) (.cells #[] 9)).grown hgrow (by simp) (fun k hk => by simp [Value.ownBlock] at hk; omega))⟩)
    clear hown' hgrow hby
    go_wp2
    go_ret
    exact ⟨_, rfl, R.out⟩

set_option maxHeartbeats 1000000 in
set_option maxRecDepth 100000 in
theorem All_any (X : Nat → Prop) (x p : Nat) (f : Int) (R : List Str) (D : MD) (w : World) (h : Lg X w x p f R D) (hR : R.length ≤ 16000000) :
    Calls Try.prog 13 #[ptr x] w fun e w' => ∃ v, e = .returned v ∧ Own w' v R ∧ (∀ g, v.ownBlock = some g → w.heap.size ≤ g) ∧ Below w.heap.size w w' := by
  obtain ⟨v, hv⟩ := h
  obtain ⟨A, n, c, rfl, hn, hc⟩ := hv.log.own.sl
  have c2 := hv.log.c2
  have K := Lib.hid (Clone_any A n c R w (hv.log.own.row hn) hn hR)
  clear hv hn hc hR
  go_enter Try.func13, Try.ntmps13
  go_wp2_with fail
  refine K.out.mono ?_
  rintro e w1 ⟨v, rfl, h1, h2, h3⟩
  have R := Lib.hid (And.intro h1 (And.intro h2 h3))
  clear h1 h2 h3 K
  go_wp2
  go_ret
  exact ⟨_, rfl, R.out⟩

set_option maxHeartbeats 1000000 in
set_option maxRecDepth 100000 in
theorem Flush_any (X : Nat → Prop) (x p : Nat) (f : Int) (R : List Str) (D : MD) (w : World) (h : Lg X w x p f R D) :
    Calls Try.prog 26 #[ptr x] w fun e w' => e = .returned (.int .i64 (D.flush f).1) ∧ Lg X w' x p f R (D.flush f).2 ∧ Fr X w w' := by
  obtain ⟨v, hv⟩ := h
  have c0 : w.drew.cell? ⟨x, 0, none⟩ = some (ptr p) := hv.log.c0
  have c1 : w.drew.cell? ⟨x, 1, none⟩ = some (.int .i64 f) := hv.log.c1
  have F0 := Lib.hid (show Fr (plus X x v) w w.drew from (Fr.refl _ _).drew)
  have KF := Lib.hid (S9.Dk.Flush_any (plus X x v) p D f w.drew hv.disk.drew)
  have HV := Lib.hid hv
  clear hv
  go_enter Try.func26, Try.ntmps26
  go_wp2
  refine wp_region_held_drew (S := (fun w' => w'.cell? ⟨x, 0, none⟩ = some (ptr p) ∧ w'.cell? ⟨x, 1, none⟩ = some (.int .i64 f))) (by kernel_rfl) ⟨c0, c1⟩ (fun hHeld => ?_)
  refine wpAnyH_take (i := 0) (oi := ⟨_, _, _, _, _, _⟩) (v := ?_) rfl (by kernel_rfl) (by kernel_rfl) (by kernel_rfl) (fun _ _ _ h => h) (Or.inl ⟨by rfl, ?_⟩) (by assumption) ?_
  rotate_left
  · intro wz hSw
    try dsimp only at hSw
    go_simp
    try with_reducible rfl
  try simp only [Act.put, List.setIfInBounds_toArray, List.set_cons_zero, List.set_cons_succ]
  refine wpAnyH_take (i := 1) (oi := ⟨_, _, _, _, _, _⟩) (v := ?_) rfl (by kernel_rfl) (by kernel_rfl) (by kernel_rfl) (fun _ _ _ h => h) (Or.inl ⟨by rfl, ?_⟩) (by assumption) ?_
  rotate_left
  · intro wz hSw
    try dsimp only at hSw
    go_simp
    try with_reducible rfl
  try simp only [Act.put, List.setIfInBounds_toArray, List.set_cons_zero, List.set_cons_succ]
  refine wpAnyH_take (i := 2) (oi := ⟨_, _, _, _, _, _⟩) (v := ?_) rfl (by kernel_rfl) (by kernel_rfl) (by kernel_rfl) (fun _ _ _ h => h) (Or.inl ⟨by rfl, ?_⟩) (by assumption) ?_
  rotate_left
  · intro wz hSw
    try dsimp only at hSw
    go_simp
    try with_reducible rfl
  try simp only [Act.put, List.setIfInBounds_toArray, List.set_cons_zero, List.set_cons_succ]
  refine wpAnyH_take (i := 3) (oi := ⟨_, _, _, _, _, _⟩) (v := ?_) rfl (by kernel_rfl) (by kernel_rfl) (by kernel_rfl) (fun _ _ _ h => h) (Or.inl ⟨by rfl, ?_⟩) (by assumption) ?_
  rotate_left
  · intro wz hSw
    try dsimp only at hSw
    go_simp
    try with_reducible rfl
  try simp only [Act.put, List.setIfInBounds_toArray, List.set_cons_zero, List.set_cons_succ]
  refine wpAnyH_take (i := 4) (oi := ⟨_, _, _, _, _, _⟩) (v := ?_) rfl (by kernel_rfl) (by kernel_rfl) (by kernel_rfl) (fun _ _ _ h => h) (Or.inl ⟨by rfl, ?_⟩) (by assumption) ?_
  rotate_left
  · intro wz hSw
    try dsimp only at hSw
    go_simp
    try with_reducible rfl
  try simp only [Act.put, List.setIfInBounds_toArray, List.set_cons_zero, List.set_cons_succ]
  refine wpAnyH_take (i := 5) (oi := ⟨_, _, _, _, _, _⟩) (v := ?_) rfl (by kernel_rfl) (by kernel_rfl) (by kernel_rfl) (fun _ _ _ h => h) (Or.inl ⟨by rfl, ?_⟩) (by assumption) ?_
  rotate_left
  · intro wz hSw
    try dsimp only at hSw
    go_simp
    try with_reducible rfl
  try simp only [Act.put, List.setIfInBounds_toArray, List.set_cons_zero, List.set_cons_succ]
  refine wpAnyH_take (i := 6) (oi := ⟨_, _, _, _, _, _⟩) (v := ?_) rfl (by kernel_rfl) (by kernel_rfl) (by kernel_rfl) (fun _ _ _ h => h) (Or.inl ⟨by rfl, ?_⟩) (by assumption) ?_
  rotate_left
  · intro wz hSw
    try dsimp only at hSw
    go_simp
    try with_reducible rfl
  try simp only [Act.put, List.setIfInBounds_toArray, List.set_cons_zero, List.set_cons_succ]
  refine wpAnyH_take (i := 7) (oi := ⟨_, _, _, _, _, _⟩) (v := ?_) rfl (by kernel_rfl) (by kernel_rfl) (by kernel_rfl) (fun _ _ _ h => h) (Or.inl ⟨by rfl, ?_⟩) (by assumption) ?_
  rotate_left
  · intro wz hSw
    try dsimp only at hSw
    go_simp
    try with_reducible rfl
  try simp only [Act.put, List.setIfInBounds_toArray, List.set_cons_zero, List.set_cons_succ]
  refine wpAnyH_ready (rs := [8]) (by kernel_rfl) (by simp) ?_
  refine AllReadyH.cons (o := ⟨_, _, _, _, _, _⟩) rfl (fun K hK => ?_) AllReadyH.nil
  go_simp
  refine KF.out.mono ?_
  rintro e w1 ⟨rfl, h1, f1⟩
  have HV1 := Lib.hid (HV.out.fr (F0.out.trans f1) h1)
  have F1 := Lib.hid (F0.out.trans f1)
  clear h1 f1 hHeld c0 c1
  refine hK.out _ _ ⟨HV1.out.log.c0, HV1.out.log.c1⟩ (fun hHeld => ?_)
  clear hK K
  try simp only [Act.put, List.setIfInBounds_toArray, List.set_cons_zero, List.set_cons_succ]
  refine wpAnyH_take (i := 9) (oi := ⟨_, _, _, _, _, _⟩) (v := ?_) rfl (by kernel_rfl) (by kernel_rfl) (by kernel_rfl) (fun _ _ _ h => h) (Or.inl ⟨by rfl, ?_⟩) (by assumption) ?_
  rotate_left
  · intro wz hSw
    try dsimp only at hSw
    go_simp
    try with_reducible rfl
  try simp only [Act.put, List.setIfInBounds_toArray, List.set_cons_zero, List.set_cons_succ]
  refine wpAnyH_done (by kernel_rfl) ?_ _
  clear hHeld
  go_wp2
  go_ret
  exact ⟨rfl, ⟨_, HV1.out⟩, F1.out.weaken (Lv.sub X x v)⟩
end Wl
end Go.Proofs.Ytihanhdepijijaa
