/-
  Layer 7: the law's own 'with'.
-/
import Derived.Test.YtjpgadiobgbchaaDoorShareSmall
import Derived.Deep.Slices
import Derived.Laws.OwnMore
import Derived.OrdersHeld
namespace Go.Proofs.YtjpgadiobgbchaaDoor
open Go.RowKit
namespace Sh
attribute [local go_sem] S3.B_size S3.B_app S3.B_list

theorem Sc_one : ∀ (l : List (Int × Int)) (u : Value), u ∈ Sc l → u.oneCell' = true
  | [], u, h => by simp [Sc] at h
  | p :: l, u, h => by
    rw [Sc_cons] at h
    rcases List.mem_cons.1 h with rfl | h
    · rfl
    · rcases List.mem_cons.1 h with rfl | h
      · rfl
      · exact Sc_one l u h
theorem Bl_grown {w w' : World} {g : Nat} {cs : List Value} {t : TypeId} {r : Option Nat} (h : Lk.Bl w g cs t) (hg : w.grownBy w' r) (hne : ¬ some g = r) : Lk.Bl w' g cs t := ⟨(hg.block g h.lt hne).trans h.row⟩
theorem Bl_two {w : World} {g : Nat} {u v : Value} {t : TypeId} (h : Lk.Bl w g [u, v] t) : ∀ (j : Nat) (x : Value), [u, v][j]? = some x → w.cell? ((⟨g, 0, none⟩ : Addr).add j) = some x := by
  intro j x hj
  rw [Addr.add_lit, Nat.zero_add]
  exact h.c j x hj
theorem own_lt {w : World} {base n k g c : Nat} {e : TypeId} {xs : List Value} (h : w.ownsRow base e k (.slice (some ⟨g, 0, none⟩) n c) n xs) : g < w.heap.size := by
  rcases h.2 with ⟨h1, _⟩ | ⟨g', cap, cur, h1, _, hh, _⟩
  · cases h1
  · injection h1 with h1 _ _
    injection h1 with h1
    injection h1 with h1 _ _
    subst h1
    exact (Array.getElem?_eq_some_iff.1 hh).1

set_option maxHeartbeats 8000000 in
set_option maxRecDepth 100000 in
theorem with_any (L : Landed) (A : Option Addr) (q : List (Int × Int)) (X y0 y : Int) (c : Nat) (w : World) (h : Rw w A (q ++ [(X, y0)])) (hq : q.length ≤ 30) (hc : q.length + 1 ≤ c) :
    Calls Tryd.prog 18 #[.slice A (q.length + 1) c, .int .i64 y] w fun e w' => e = .returned (.tuple #[.int .i64 (joinP (q ++ [(X, y)]) (q.length + 1 : Nat)).1, .bool (joinP (q ++ [(X, y)]) (q.length + 1 : Nat)).2]) ∧ Below w.heap.size w w' := by
  obtain ⟨a, rfl, hab, hx, _⟩ := row_at h.row (i := q.length) (by simp)
  rw [List.getElem_concat_length rfl] at hx
  have hrq := (h.take q.length).row
  rw [List.take_left' rfl] at hrq
  have hq' : ∀ (j : Nat) (u : Value), (Sc q)[j]? = some u → w.cell? (a.add j) = some u := by
    intro j u hu
    rcases hrq with h0 | ⟨a', e, _, hcc⟩
    · rw [h0] at hu
      simp at hu
    · cases e
      exact hcc j u hu
  have kj : ∀ (w : World) (a : Addr) (c : Nat), Rw w (some a) (q ++ [(X, y)]) → q.length + 1 ≤ c → Calls Tryd.prog 12 #[.slice (some a) (q.length + 1) c, .int .i64 (q.length + 1 : Nat)] w fun e w' => e = .returned (.tuple #[.int .i64 (joinP (q ++ [(X, y)]) (q.length + 1 : Nat)).1, .bool (joinP (q ++ [(X, y)]) (q.length + 1 : Nat)).2]) ∧ Below w.heap.size w w' := fun w a c hr hcc => by
    have hl : (q ++ [(X, y)]).length = q.length + 1 := by simp
    have k := L.join (some a) (q ++ [(X, y)]) c (q.length + 1 : Nat) w hr (by omega) (by omega) (by unfold S4.isI64; omega)
    rw [hl] at k
    exact k
  obtain ⟨jv, hjv⟩ : ∃ j, j = (joinP (q ++ [(X, y)]) (q.length + 1 : Nat)).1 := ⟨_, rfl⟩
  obtain ⟨jb, hjb⟩ : ∃ j, j = (joinP (q ++ [(X, y)]) (q.length + 1 : Nat)).2 := ⟨_, rfl⟩
  rw [← hjv, ← hjb] at kj ⊢
  obtain ⟨m, hm⟩ : ∃ m, m = q.length := ⟨_, rfl⟩
  rw [← hm] at kj hx hq hc ⊢
  obtain ⟨i0, hi0, hz0, hz1, hz2⟩ := info_parts infoShare
  have HM := Lib.hid hm.symm
  have KJ := Lib.hid kj
  have HQ := Lib.hid hq'
  have hmc : (m : Int) ≤ (c : Int) := by omega
  have hm30 : (m : Int) ≤ 30 := by omega
  have hwm : IntKind.i64.wrap (m : Int) = (m : Int) := IntWalk.i64_in _ (by omega)
  have hmm : (m : Int) < (m : Int) + 1 := by omega
  clear hjv hjb kj hq' hrq h hm
  go_enter Tryd.func18, Tryd.ntmps18
  go_wp2
  have B := Lib.hid ((Below.refl w.heap.size w).drew)
  refine wp_region_held_drew (S := (fun w' => w'.cell? (a.add (m * 2)) = some (.int .i64 X))) (by kernel_rfl) ((B.out.cell (p := a.add (m * 2)) (by rw [S2.add_block]; exact hab)).trans hx) (fun hHeld => ?_)
  generalize w.drew = wd at *
  refine wpAnyH_take (i := 1) (oi := ⟨_, _, _, _, _, _⟩) (v := ?_) rfl (by kernel_rfl) (by kernel_rfl) (by kernel_rfl) (fun _ _ _ h => h) (Or.inl ⟨by rfl, ?_⟩) (by assumption) ?_
  rotate_left
  · intro wz hSw
    try dsimp only at hSw
    go_simp
    try with_reducible rfl
  try simp only [Act.put, List.setIfInBounds_toArray, List.set_cons_zero, List.set_cons_succ]
  refine wpAnyH_take (i := 2) (oi := ⟨_, _, _, _, _, _⟩) (v := ?_) rfl (by kernel_rfl) (by kernel_rfl) (by kernel_rfl) (fun _ _ _ h => h) (Or.inl ⟨by rfl, ?_⟩) (by assumption) ?_
  rotate_left
  · intro wz hSw
    try dsimp only at hSw
    go_simp
    try with_reducible rfl
  try simp only [Act.put, List.setIfInBounds_toArray, List.set_cons_zero, List.set_cons_succ]
  refine wpAnyH_take (i := 3) (oi := ⟨_, _, _, _, _, _⟩) (v := ?_) rfl (by kernel_rfl) (by kernel_rfl) (by kernel_rfl) (fun _ _ _ h => h) (Or.inl ⟨by rfl, ?_⟩) (by assumption) ?_
  rotate_left
  · intro wz hSw
    try dsimp only at hSw
    go_simp
    try with_reducible rfl
  try simp only [Act.put, List.setIfInBounds_toArray, List.set_cons_zero, List.set_cons_succ]
  refine wpAnyH_take (i := 4) (oi := ⟨_, _, _, _, _, _⟩) (v := ?_) rfl (by kernel_rfl) (by kernel_rfl) (by kernel_rfl) (fun _ _ _ h => h) (Or.inl ⟨by rfl, ?_⟩) (by assumption) ?_
  rotate_left
  · intro wz hSw
    try dsimp only at hSw
    go_simp
    try with_reducible rfl
  try simp only [Act.put, List.setIfInBounds_toArray, List.set_cons_zero, List.set_cons_succ]
  refine wpAnyH_take (i := 6) (oi := ⟨_, _, _, _, _, _⟩) (v := ?_) rfl (by kernel_rfl) (by kernel_rfl) (by kernel_rfl) (fun _ _ _ h => h) (Or.inl ⟨by rfl, ?_⟩) (by assumption) ?_
  rotate_left
  · intro wz hSw
    try dsimp only at hSw
    go_simp
    try with_reducible rfl
  try simp only [Act.put, List.setIfInBounds_toArray, List.set_cons_zero, List.set_cons_succ]
  refine wpAnyH_take (i := 7) (oi := ⟨_, _, _, _, _, _⟩) (v := ?_) rfl (by kernel_rfl) (by kernel_rfl) (by kernel_rfl) (fun _ _ _ h => h) (Or.inl ⟨by rfl, ?_⟩) (by assumption) ?_
  rotate_left
  · intro wz hSw
    try dsimp only at hSw
    go_simp
    try with_reducible rfl
  try simp only [Act.put, List.setIfInBounds_toArray, List.set_cons_zero, List.set_cons_succ]
  refine wpAnyH_take (i := 8) (oi := ⟨_, _, _, _, _, _⟩) (v := ?_) rfl (by kernel_rfl) (by kernel_rfl) (by kernel_rfl) (fun _ _ _ h => h) (Or.inl ⟨by rfl, ?_⟩) (by assumption) ?_
  rotate_left
  · intro wz hSw
    try dsimp only at hSw
    go_simp
    try with_reducible rfl
  try simp only [Act.put, List.setIfInBounds_toArray, List.set_cons_zero, List.set_cons_succ]
  refine wpAnyH_take (i := 9) (oi := ⟨_, _, _, _, _, _⟩) (v := ?_) rfl (by kernel_rfl) (by kernel_rfl) (by kernel_rfl) (fun _ _ _ h => h) (Or.inl ⟨by rfl, ?_⟩) (by assumption) ?_
  rotate_left
  · intro wz hSw
    try dsimp only at hSw
    go_simp
    try with_reducible rfl
  try simp only [Act.put, List.setIfInBounds_toArray, List.set_cons_zero, List.set_cons_succ]
  refine wpAnyH_take (i := 10) (oi := ⟨_, _, _, _, _, _⟩) (v := ?_) rfl (by kernel_rfl) (by kernel_rfl) (by kernel_rfl) (fun _ _ _ h => h) (Or.inl ⟨by rfl, ?_⟩) (by assumption) ?_
  rotate_left
  · intro wz hSw
    try dsimp only at hSw
    go_simp
    try with_reducible rfl
  try simp only [Act.put, List.setIfInBounds_toArray, List.set_cons_zero, List.set_cons_succ]
  refine wpAnyH_take (i := 11) (oi := ⟨_, _, _, _, _, _⟩) (v := ?_) rfl (by kernel_rfl) (by kernel_rfl) (by kernel_rfl) (fun _ _ _ h => h) (Or.inl ⟨by rfl, ?_⟩) (by assumption) ?_
  rotate_left
  · intro wz hSw
    try dsimp only at hSw
    go_simp
    try with_reducible rfl
  try simp only [Act.put, List.setIfInBounds_toArray, List.set_cons_zero, List.set_cons_succ]
  refine wpAnyH_take (i := 12) (oi := ⟨_, _, _, _, _, _⟩) (v := ?_) rfl (by kernel_rfl) (by kernel_rfl) (by kernel_rfl) (fun _ _ _ h => h) (Or.inl ⟨by rfl, ?_⟩) (by assumption) ?_
  rotate_left
  · intro wz hSw
    try dsimp only at hSw
    go_simp
    try with_reducible rfl
  try simp only [Act.put, List.setIfInBounds_toArray, List.set_cons_zero, List.set_cons_succ]
  refine wpAnyH_take (i := 13) (oi := ⟨_, _, _, _, _, _⟩) (v := ?_) rfl (by kernel_rfl) (by kernel_rfl) (by kernel_rfl) (fun _ _ _ h => h) (Or.inl ⟨by rfl, ?_⟩) (by assumption) ?_
  rotate_left
  · intro wz hSw
    try dsimp only at hSw
    go_simp
    try with_reducible rfl
  try simp only [Act.put, List.setIfInBounds_toArray, List.set_cons_zero, List.set_cons_succ]
  refine wpAnyH_take (i := 16) (oi := ⟨_, _, _, _, _, _⟩) (v := ?_) rfl (by kernel_rfl) (by kernel_rfl) (by kernel_rfl) (fun _ _ _ h => h) (Or.inl ⟨by rfl, ?_⟩) (by assumption) ?_
  rotate_left
  · intro wz hSw
    try dsimp only at hSw
    go_simp
    try with_reducible rfl
  try simp only [Act.put, List.setIfInBounds_toArray, List.set_cons_zero, List.set_cons_succ]
  refine wpAnyH_ready (rs := [0, 14]) (by kernel_rfl) (by simp) ?_
  refine AllReadyH.cons (o := ⟨_, _, _, _, _, _⟩) rfl (fun K hK => ?_) (AllReadyH.cons (o := ⟨_, _, _, _, _, _⟩) rfl (fun K hK => ?_) AllReadyH.nil)
  · go_simp
    have own9 := Lib.hid (World.ownsRow_lit (base := w.heap.size) (size := 2) (e := 38) wd #[] 0 B.out.size (by decide) rfl)
    replace B := Lib.hid (B.out.alloc B.out.size (.cells #[] 38))
    clear hHeld
    refine hK.out _ _ ((B.out.cell (p := a.add (m * 2)) (by rw [S2.add_block]; exact hab)).trans hx) (fun hHeld => ?_)
    clear hK K
    try simp only [Act.put, List.setIfInBounds_toArray, List.set_cons_zero, List.set_cons_succ]
    generalize wd.alloc (.cells #[] 38) = x1 at *
    refine wpAnyH_ready (rs := [5, 14]) (by kernel_rfl) (by simp) ?_
    refine AllReadyH.cons (o := ⟨_, _, _, _, _, _⟩) rfl (fun K hK => ?_) (AllReadyH.cons (o := ⟨_, _, _, _, _, _⟩) rfl (fun K hK => ?_) AllReadyH.nil)
    · refine S3.step_append_own rfl _ _ 22 rfl w.heap.size 38 i0 (.agg #[.int .i64 0, .int .i64 0]) 2 16 Tryd.underlying22 hi0 hz0 hz1 hz2 rfl (by decide) _ _ _ rfl own9.out a m c (Sc q) rfl (by rw [Sc_len, HM.out]) (fun j u hu => (B.out.cell (p := a.add j) (by rw [S2.add_block]; exact hab)).trans (HQ.out j u hu)) (Sc_one q) (by unfold maxLen; omega) (by omega) B.out.size ?_
      intro v14 x2 ho hg
      replace B := Lib.hid (B.out.grown hg B.out.size (own_ge own9.out))
      have own14 : Hid (x2.ownsRow w.heap.size 38 2 v14 m (Sc q)) := Lib.hid (by rw [Nat.zero_add] at ho; exact ho)
      clear ho hg own9
      clear hHeld
      refine hK.out _ _ ((B.out.cell (p := a.add (m * 2)) (by rw [S2.add_block]; exact hab)).trans hx) (fun hHeld => ?_)
      clear hK K
      try simp only [Act.put, List.setIfInBounds_toArray, List.set_cons_zero, List.set_cons_succ]
      refine wpAnyH_ready (rs := [14]) (by kernel_rfl) (by simp) ?_
      refine AllReadyH.cons (o := ⟨_, _, _, _, _, _⟩) rfl (fun K hK => ?_) AllReadyH.nil
      go_simp
      have BL := Lib.hid (Lk.Bl.new x2 [.int .i64 X, .int .i64 y] 38)
      replace own14 := Lib.hid (own14.out.alloc (.cells #[.int .i64 X, .int .i64 y] 38))
      replace B := Lib.hid (B.out.alloc B.out.size (.cells #[.int .i64 X, .int .i64 y] 38))
      clear hHeld
      refine hK.out _ _ ((B.out.cell (p := a.add (m * 2)) (by rw [S2.add_block]; exact hab)).trans hx) (fun hHeld => ?_)
      clear hK K
      try simp only [Act.put, List.setIfInBounds_toArray, List.set_cons_zero, List.set_cons_succ]
      generalize x2.alloc (.cells #[.int .i64 X, .int .i64 y] 38) = x3 at *
      refine wpAnyH_ready (rs := [15]) (by kernel_rfl) (by simp) ?_
      refine AllReadyH.cons (o := ⟨_, _, _, _, _, _⟩) rfl (fun K hK => ?_) AllReadyH.nil
      refine S3.step_append_own rfl _ _ 22 rfl w.heap.size 38 i0 (.agg #[.int .i64 0, .int .i64 0]) 2 16 Tryd.underlying22 hi0 hz0 hz1 hz2 rfl (by decide) _ _ _ rfl own14.out ⟨x2.heap.size, 0, none⟩ 1 1 [.int .i64 X, .int .i64 y] rfl rfl (Bl_two BL.out) (fun u hu => by simp at hu; rcases hu with rfl | rfl <;> rfl) (by unfold maxLen; omega) (by omega) B.out.size ?_
      intro v24 x4 ho hg
      replace B := Lib.hid (B.out.grown hg B.out.size (own_ge own14.out))
      have ho2 : x4.ownsRow w.heap.size 38 2 v24 (m + 1) (Sc (q ++ [(X, y)])) := by rw [Sc_append]; exact ho
      obtain ⟨a24, c24, rfl, hc24⟩ := own_some ho2 (by omega)
      have R := Lib.hid (Rw.own ho2)
      clear ho hg ho2 own14 BL
      clear hHeld
      refine hK.out _ _ ((B.out.cell (p := a.add (m * 2)) (by rw [S2.add_block]; exact hab)).trans hx) (fun hHeld => ?_)
      clear hK K
      try simp only [Act.put, List.setIfInBounds_toArray, List.set_cons_zero, List.set_cons_succ]
      refine wpAnyH_ready (rs := [17]) (by kernel_rfl) (by simp) ?_
      refine AllReadyH.cons (o := ⟨_, _, _, _, _, _⟩) rfl (fun K hK => ?_) AllReadyH.nil
      go_simp
      refine (KJ.out x4 a24 c24 R.out hc24).mono ?_
      rintro e wz ⟨rfl, hb⟩
      replace B := Lib.hid (B.out.trans (hb.mono B.out.size))
      clear hb
      clear hHeld
      refine hK.out _ _ ((B.out.cell (p := a.add (m * 2)) (by rw [S2.add_block]; exact hab)).trans hx) (fun hHeld => ?_)
      clear hK K
      try simp only [Act.put, List.setIfInBounds_toArray, List.set_cons_zero, List.set_cons_succ]
      refine wpAnyH_take (i := 18) (oi := ⟨_, _, _, _, _, _⟩) (v := ?_) rfl (by kernel_rfl) (by kernel_rfl) (by kernel_rfl) (fun _ _ _ h => h) (Or.inl ⟨by rfl, ?_⟩) (by assumption) ?_
      rotate_left
      · intro wz hSw
        try dsimp only at hSw
        go_simp
        try with_reducible rfl
      try simp only [Act.put, List.setIfInBounds_toArray, List.set_cons_zero, List.set_cons_succ]
      refine wpAnyH_take (i := 19) (oi := ⟨_, _, _, _, _, _⟩) (v := ?_) rfl (by kernel_rfl) (by kernel_rfl) (by kernel_rfl) (fun _ _ _ h => h) (Or.inl ⟨by rfl, ?_⟩) (by assumption) ?_
      rotate_left
      · intro wz hSw
        try dsimp only at hSw
        go_simp
        try with_reducible rfl
      try simp only [Act.put, List.setIfInBounds_toArray, List.set_cons_zero, List.set_cons_succ]
      refine wpAnyH_take (i := 20) (oi := ⟨_, _, _, _, _, _⟩) (v := ?_) rfl (by kernel_rfl) (by kernel_rfl) (by kernel_rfl) (fun _ _ _ h => h) (Or.inl ⟨by rfl, ?_⟩) (by assumption) ?_
      rotate_left
      · intro wz hSw
        try dsimp only at hSw
        go_simp
        try with_reducible rfl
      try simp only [Act.put, List.setIfInBounds_toArray, List.set_cons_zero, List.set_cons_succ]
      refine wpAnyH_take (i := 21) (oi := ⟨_, _, _, _, _, _⟩) (v := ?_) rfl (by kernel_rfl) (by kernel_rfl) (by kernel_rfl) (fun _ _ _ h => h) (Or.inl ⟨by rfl, ?_⟩) (by assumption) ?_
      rotate_left
      · intro wz hSw
        try dsimp only at hSw
        go_simp
        try with_reducible rfl
      try simp only [Act.put, List.setIfInBounds_toArray, List.set_cons_zero, List.set_cons_succ]
      refine wpAnyH_done (by kernel_rfl) ?_ _
      clear hHeld
      go_wp2
      go_ret2
      exact ⟨rfl, B.out⟩
    · go_simp
      have BL := Lib.hid (Lk.Bl.new x1 [.int .i64 X, .int .i64 y] 38)
      have NE : Hid (¬ x1.heap.size = wd.heap.size) := Lib.hid (by have := own_lt own9.out; omega)
      replace own9 := Lib.hid (own9.out.alloc (.cells #[.int .i64 X, .int .i64 y] 38))
      replace B := Lib.hid (B.out.alloc B.out.size (.cells #[.int .i64 X, .int .i64 y] 38))
      clear hHeld
      refine hK.out _ _ ((B.out.cell (p := a.add (m * 2)) (by rw [S2.add_block]; exact hab)).trans hx) (fun hHeld => ?_)
      clear hK K
      try simp only [Act.put, List.setIfInBounds_toArray, List.set_cons_zero, List.set_cons_succ]
      generalize x1.alloc (.cells #[.int .i64 X, .int .i64 y] 38) = x2 at *
      refine wpAnyH_ready (rs := [5]) (by kernel_rfl) (by simp) ?_
      refine AllReadyH.cons (o := ⟨_, _, _, _, _, _⟩) rfl (fun K hK => ?_) AllReadyH.nil
      refine S3.step_append_own rfl _ _ 22 rfl w.heap.size 38 i0 (.agg #[.int .i64 0, .int .i64 0]) 2 16 Tryd.underlying22 hi0 hz0 hz1 hz2 rfl (by decide) _ _ _ rfl own9.out a m c (Sc q) rfl (by rw [Sc_len, HM.out]) (fun j u hu => (B.out.cell (p := a.add j) (by rw [S2.add_block]; exact hab)).trans (HQ.out j u hu)) (Sc_one q) (by unfold maxLen; omega) (by omega) B.out.size ?_
      intro v14 x3 ho hg
      replace B := Lib.hid (B.out.grown hg B.out.size (own_ge own9.out))
      have own14 : Hid (x3.ownsRow w.heap.size 38 2 v14 m (Sc q)) := Lib.hid (by rw [Nat.zero_add] at ho; exact ho)
      replace BL := Lib.hid (Bl_grown BL.out hg (show ¬ some (x1.heap.size) = some (wd.heap.size) from fun e => NE.out (Option.some.inj e)))
      clear ho hg own9
      clear hHeld
      refine hK.out _ _ ((B.out.cell (p := a.add (m * 2)) (by rw [S2.add_block]; exact hab)).trans hx) (fun hHeld => ?_)
      clear hK K
      try simp only [Act.put, List.setIfInBounds_toArray, List.set_cons_zero, List.set_cons_succ]
      refine wpAnyH_ready (rs := [15]) (by kernel_rfl) (by simp) ?_
      refine AllReadyH.cons (o := ⟨_, _, _, _, _, _⟩) rfl (fun K hK => ?_) AllReadyH.nil
      refine S3.step_append_own rfl _ _ 22 rfl w.heap.size 38 i0 (.agg #[.int .i64 0, .int .i64 0]) 2 16 Tryd.underlying22 hi0 hz0 hz1 hz2 rfl (by decide) _ _ _ rfl own14.out ⟨x1.heap.size, 0, none⟩ 1 1 [.int .i64 X, .int .i64 y] rfl rfl (Bl_two BL.out) (fun u hu => by simp at hu; rcases hu with rfl | rfl <;> rfl) (by unfold maxLen; omega) (by omega) B.out.size ?_
      intro v24 x4 ho hg
      replace B := Lib.hid (B.out.grown hg B.out.size (own_ge own14.out))
      have ho2 : x4.ownsRow w.heap.size 38 2 v24 (m + 1) (Sc (q ++ [(X, y)])) := by rw [Sc_append]; exact ho
      obtain ⟨a24, c24, rfl, hc24⟩ := own_some ho2 (by omega)
      have R := Lib.hid (Rw.own ho2)
      clear ho hg ho2 own14 BL
      clear hHeld
      refine hK.out _ _ ((B.out.cell (p := a.add (m * 2)) (by rw [S2.add_block]; exact hab)).trans hx) (fun hHeld => ?_)
      clear hK K
      try simp only [Act.put, List.setIfInBounds_toArray, List.set_cons_zero, List.set_cons_succ]
      refine wpAnyH_ready (rs := [17]) (by kernel_rfl) (by simp) ?_
      refine AllReadyH.cons (o := ⟨_, _, _, _, _, _⟩) rfl (fun K hK => ?_) AllReadyH.nil
      go_simp
      refine (KJ.out x4 a24 c24 R.out hc24).mono ?_
      rintro e wz ⟨rfl, hb⟩
      replace B := Lib.hid (B.out.trans (hb.mono B.out.size))
      clear hb
      clear hHeld
      refine hK.out _ _ ((B.out.cell (p := a.add (m * 2)) (by rw [S2.add_block]; exact hab)).trans hx) (fun hHeld => ?_)
      clear hK K
      try simp only [Act.put, List.setIfInBounds_toArray, List.set_cons_zero, List.set_cons_succ]
      refine wpAnyH_take (i := 18) (oi := ⟨_, _, _, _, _, _⟩) (v := ?_) rfl (by kernel_rfl) (by kernel_rfl) (by kernel_rfl) (fun _ _ _ h => h) (Or.inl ⟨by rfl, ?_⟩) (by assumption) ?_
      rotate_left
      · intro wz hSw
        try dsimp only at hSw
        go_simp
        try with_reducible rfl
      try simp only [Act.put, List.setIfInBounds_toArray, List.set_cons_zero, List.set_cons_succ]
      refine wpAnyH_take (i := 19) (oi := ⟨_, _, _, _, _, _⟩) (v := ?_) rfl (by kernel_rfl) (by kernel_rfl) (by kernel_rfl) (fun _ _ _ h => h) (Or.inl ⟨by rfl, ?_⟩) (by assumption) ?_
      rotate_left
      · intro wz hSw
        try dsimp only at hSw
        go_simp
        try with_reducible rfl
      try simp only [Act.put, List.setIfInBounds_toArray, List.set_cons_zero, List.set_cons_succ]
      refine wpAnyH_take (i := 20) (oi := ⟨_, _, _, _, _, _⟩) (v := ?_) rfl (by kernel_rfl) (by kernel_rfl) (by kernel_rfl) (fun _ _ _ h => h) (Or.inl ⟨by rfl, ?_⟩) (by assumption) ?_
      rotate_left
      · intro wz hSw
        try dsimp only at hSw
        go_simp
        try with_reducible rfl
      try simp only [Act.put, List.setIfInBounds_toArray, List.set_cons_zero, List.set_cons_succ]
      refine wpAnyH_take (i := 21) (oi := ⟨_, _, _, _, _, _⟩) (v := ?_) rfl (by kernel_rfl) (by kernel_rfl) (by kernel_rfl) (fun _ _ _ h => h) (Or.inl ⟨by rfl, ?_⟩) (by assumption) ?_
      rotate_left
      · intro wz hSw
        try dsimp only at hSw
        go_simp
        try with_reducible rfl
      try simp only [Act.put, List.setIfInBounds_toArray, List.set_cons_zero, List.set_cons_succ]
      refine wpAnyH_done (by kernel_rfl) ?_ _
      clear hHeld
      go_wp2
      go_ret2
      exact ⟨rfl, B.out⟩
  · go_simp
    have BL := Lib.hid (Lk.Bl.new wd [.int .i64 X, .int .i64 y] 38)
    replace B := Lib.hid (B.out.alloc B.out.size (.cells #[.int .i64 X, .int .i64 y] 38))
    clear hHeld
    refine hK.out _ _ ((B.out.cell (p := a.add (m * 2)) (by rw [S2.add_block]; exact hab)).trans hx) (fun hHeld => ?_)
    clear hK K
    try simp only [Act.put, List.setIfInBounds_toArray, List.set_cons_zero, List.set_cons_succ]
    generalize wd.alloc (.cells #[.int .i64 X, .int .i64 y] 38) = x1 at *
    refine wpAnyH_ready (rs := [0]) (by kernel_rfl) (by simp) ?_
    refine AllReadyH.cons (o := ⟨_, _, _, _, _, _⟩) rfl (fun K hK => ?_) AllReadyH.nil
    go_simp
    have own9 := Lib.hid (World.ownsRow_lit (base := w.heap.size) (size := 2) (e := 38) x1 #[] 0 B.out.size (by decide) rfl)
    have NE : Hid (¬ wd.heap.size = x1.heap.size) := Lib.hid (by have := BL.out.lt; omega)
    replace BL := Lib.hid (BL.out.alloc (.cells #[] 38))
    replace B := Lib.hid (B.out.alloc B.out.size (.cells #[] 38))
    clear hHeld
    refine hK.out _ _ ((B.out.cell (p := a.add (m * 2)) (by rw [S2.add_block]; exact hab)).trans hx) (fun hHeld => ?_)
    clear hK K
    try simp only [Act.put, List.setIfInBounds_toArray, List.set_cons_zero, List.set_cons_succ]
    generalize x1.alloc (.cells #[] 38) = x2 at *
    refine wpAnyH_ready (rs := [5]) (by kernel_rfl) (by simp) ?_
    refine AllReadyH.cons (o := ⟨_, _, _, _, _, _⟩) rfl (fun K hK => ?_) AllReadyH.nil
    refine S3.step_append_own rfl _ _ 22 rfl w.heap.size 38 i0 (.agg #[.int .i64 0, .int .i64 0]) 2 16 Tryd.underlying22 hi0 hz0 hz1 hz2 rfl (by decide) _ _ _ rfl own9.out a m c (Sc q) rfl (by rw [Sc_len, HM.out]) (fun j u hu => (B.out.cell (p := a.add j) (by rw [S2.add_block]; exact hab)).trans (HQ.out j u hu)) (Sc_one q) (by unfold maxLen; omega) (by omega) B.out.size ?_
    intro v14 x3 ho hg
    replace B := Lib.hid (B.out.grown hg B.out.size (own_ge own9.out))
    have own14 : Hid (x3.ownsRow w.heap.size 38 2 v14 m (Sc q)) := Lib.hid (by rw [Nat.zero_add] at ho; exact ho)
    replace BL := Lib.hid (Bl_grown BL.out hg (show ¬ some (wd.heap.size) = some (x1.heap.size) from fun e => NE.out (Option.some.inj e)))
    clear ho hg own9
    clear hHeld
    refine hK.out _ _ ((B.out.cell (p := a.add (m * 2)) (by rw [S2.add_block]; exact hab)).trans hx) (fun hHeld => ?_)
    clear hK K
    try simp only [Act.put, List.setIfInBounds_toArray, List.set_cons_zero, List.set_cons_succ]
    refine wpAnyH_ready (rs := [15]) (by kernel_rfl) (by simp) ?_
    refine AllReadyH.cons (o := ⟨_, _, _, _, _, _⟩) rfl (fun K hK => ?_) AllReadyH.nil
    refine S3.step_append_own rfl _ _ 22 rfl w.heap.size 38 i0 (.agg #[.int .i64 0, .int .i64 0]) 2 16 Tryd.underlying22 hi0 hz0 hz1 hz2 rfl (by decide) _ _ _ rfl own14.out ⟨wd.heap.size, 0, none⟩ 1 1 [.int .i64 X, .int .i64 y] rfl rfl (Bl_two BL.out) (fun u hu => by simp at hu; rcases hu with rfl | rfl <;> rfl) (by unfold maxLen; omega) (by omega) B.out.size ?_
    intro v24 x4 ho hg
    replace B := Lib.hid (B.out.grown hg B.out.size (own_ge own14.out))
    have ho2 : x4.ownsRow w.heap.size 38 2 v24 (m + 1) (Sc (q ++ [(X, y)])) := by rw [Sc_append]; exact ho
    obtain ⟨a24, c24, rfl, hc24⟩ := own_some ho2 (by omega)
    have R := Lib.hid (Rw.own ho2)
    clear ho hg ho2 own14 BL
    clear hHeld
    refine hK.out _ _ ((B.out.cell (p := a.add (m * 2)) (by rw [S2.add_block]; exact hab)).trans hx) (fun hHeld => ?_)
    clear hK K
    try simp only [Act.put, List.setIfInBounds_toArray, List.set_cons_zero, List.set_cons_succ]
    refine wpAnyH_ready (rs := [17]) (by kernel_rfl) (by simp) ?_
    refine AllReadyH.cons (o := ⟨_, _, _, _, _, _⟩) rfl (fun K hK => ?_) AllReadyH.nil
    go_simp
    refine (KJ.out x4 a24 c24 R.out hc24).mono ?_
    rintro e wz ⟨rfl, hb⟩
    replace B := Lib.hid (B.out.trans (hb.mono B.out.size))
    clear hb
    clear hHeld
    refine hK.out _ _ ((B.out.cell (p := a.add (m * 2)) (by rw [S2.add_block]; exact hab)).trans hx) (fun hHeld => ?_)
    clear hK K
    try simp only [Act.put, List.setIfInBounds_toArray, List.set_cons_zero, List.set_cons_succ]
    refine wpAnyH_take (i := 18) (oi := ⟨_, _, _, _, _, _⟩) (v := ?_) rfl (by kernel_rfl) (by kernel_rfl) (by kernel_rfl) (fun _ _ _ h => h) (Or.inl ⟨by rfl, ?_⟩) (by assumption) ?_
    rotate_left
    · intro wz hSw
      try dsimp only at hSw
      go_simp
      try with_reducible rfl
    try simp only [Act.put, List.setIfInBounds_toArray, List.set_cons_zero, List.set_cons_succ]
    refine wpAnyH_take (i := 19) (oi := ⟨_, _, _, _, _, _⟩) (v := ?_) rfl (by kernel_rfl) (by kernel_rfl) (by kernel_rfl) (fun _ _ _ h => h) (Or.inl ⟨by rfl, ?_⟩) (by assumption) ?_
    rotate_left
    · intro wz hSw
      try dsimp only at hSw
      go_simp
      try with_reducible rfl
    try simp only [Act.put, List.setIfInBounds_toArray, List.set_cons_zero, List.set_cons_succ]
    refine wpAnyH_take (i := 20) (oi := ⟨_, _, _, _, _, _⟩) (v := ?_) rfl (by kernel_rfl) (by kernel_rfl) (by kernel_rfl) (fun _ _ _ h => h) (Or.inl ⟨by rfl, ?_⟩) (by assumption) ?_
    rotate_left
    · intro wz hSw
      try dsimp only at hSw
      go_simp
      try with_reducible rfl
    try simp only [Act.put, List.setIfInBounds_toArray, List.set_cons_zero, List.set_cons_succ]
    refine wpAnyH_take (i := 21) (oi := ⟨_, _, _, _, _, _⟩) (v := ?_) rfl (by kernel_rfl) (by kernel_rfl) (by kernel_rfl) (fun _ _ _ h => h) (Or.inl ⟨by rfl, ?_⟩) (by assumption) ?_
    rotate_left
    · intro wz hSw
      try dsimp only at hSw
      go_simp
      try with_reducible rfl
    try simp only [Act.put, List.setIfInBounds_toArray, List.set_cons_zero, List.set_cons_succ]
    refine wpAnyH_done (by kernel_rfl) ?_ _
    clear hHeld
    go_wp2
    go_ret2
    exact ⟨rfl, B.out⟩
end Sh
end Go.Proofs.YtjpgadiobgbchaaDoor
