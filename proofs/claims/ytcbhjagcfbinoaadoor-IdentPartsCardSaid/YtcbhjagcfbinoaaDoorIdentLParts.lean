/-
  Layer 11: IdentParts' walk.
-/
import Derived.Test.YtcbhjagcfbinoaaDoorIdentOpen
import Derived.Test.YtcbhjagcfbinoaaDoorIdentFunI
namespace Go.Proofs.YtcbhjagcfbinoaaDoor
open Go.RowKit
namespace Idt
attribute [local go_sem] S2.B_size S2.B_drop' S2.B_take S2.B_list S2.B_app
theorem id_len {s : Str} (h : isId s = true) : s.length = 16 := by
  simp only [isId, Bool.and_eq_true, decide_eq_true_eq] at h
  exact h.2
/-- The law's three lists hold what the list holds. -/
theorem ids_each {l : List Str} (h : ids l = true) : ∀ s ∈ l, s.length ≤ 1125899906842624 := fun s hs => by
  rw [id_len ((ids_iff.1 h).each s hs)]
  decide
theorem less_each {l : List Str} {b : Nat} (h : ∀ s ∈ l, s.length ≤ b) (i : Nat) : ∀ s ∈ l.take i ++ l.drop (i + 1), s.length ≤ b := fun s hs =>
  (List.mem_append.1 hs).elim (fun h1 => h s (List.mem_of_mem_take h1)) (fun h1 => h s (List.mem_of_mem_drop h1))
theorem more_each {l : List Str} {b : Nat} (h : ∀ s ∈ l, s.length ≤ b) (i : Nat) (hi : i < l.length) : ∀ s ∈ l.take i ++ [l[i]] ++ l.drop i, s.length ≤ b := fun s hs =>
  (List.mem_append.1 hs).elim (fun h1 => (List.mem_append.1 h1).elim (fun h2 => h s (List.mem_of_mem_take h2)) (fun h2 => by rw [List.mem_singleton.1 h2]; exact h _ (List.getElem_mem hi))) (fun h1 => h s (List.mem_of_mem_drop h1))
theorem other_each {l : List Str} {b : Nat} (h : ∀ s ∈ l, s.length ≤ b) {x y : Str} (hx : x ∈ l) (hy : y ∈ l) (i k : Nat) : ∀ s ∈ (l.set i y).set k x, s.length ≤ b := fun s hs => by
  rcases List.mem_or_eq_of_mem_set hs with h1 | rfl
  · rcases List.mem_or_eq_of_mem_set h1 with h2 | rfl
    · exact h s h2
    · exact h _ hy
  · exact h _ hx
set_option maxHeartbeats 8000000 in
set_option maxRecDepth 100000 in
theorem parts_walk {idf : Int → Str} {W : World} (P : Pk idf W) (l : List Str) (A : Option Addr) (n c : Nat) (i k : Int) (hn : n = l.length) (hL : Ls W A l c) (hi : -9223372036854775808 ≤ i ∧ i ≤ 9223372036854775807) (hk : -9223372036854775808 ≤ k ∧ k ≤ 9223372036854775807) :
    Calls Tryd.prog 7 #[.slice A n c, .int .i64 i, .int .i64 k] W fun e w' => e = .returned (.bool true) ∧ Below W.heap.size W w' := by
  have KS := Lib.hid (small_any P W (Below.refl _ _))
  have hlen := hL.len
  have hn3 : (n : Int) ≤ 140737488355328 := by omega
  by_cases h1 : 100 < n
  · have h1I : (100 : Int) < (n : Int) := by omega
    clear h1 hn hL hi hk hlen P
    go_enter Tryd.func7, Tryd.ntmps7
    go_wp2_with fail
    refine KS.out.mono ?_
    rintro e w1 ⟨rfl, hb⟩
    clear KS
    go_wp2
    go_ret
    exact ⟨rfl, hb⟩
  have h1I : ¬ (100 : Int) < (n : Int) := by omega
  have KI := Lib.hid fun w (hb : Below W.heap.size W w) => ids_any A l n c w hn ((hL.row.below hb).more hb.size) (by omega) (fun s hs => by have := hL.each s hs; omega)
  cases hids : ids l with
  | false =>
    rw [hids] at KI
    clear h1 hn hL hi hk hlen P hids
    go_enter Tryd.func7, Tryd.ntmps7
    go_wp2_with fail
    refine KS.out.mono ?_
    rintro e w1 ⟨rfl, hb⟩
    clear KS
    go_wp2_with fail
    refine (KI.out _ hb).mono ?_
    rintro e w2 ⟨rfl, hb2⟩
    have HB := Lib.hid (hb.trans (hb2.mono hb.size))
    clear hb hb2 KI
    go_wp2
    go_ret
    exact ⟨rfl, HB.out⟩
  | true =>
    rw [hids] at KI
    by_cases c1 : i < 0
    · clear h1 hn hL hi hk hlen P hids
      go_enter Tryd.func7, Tryd.ntmps7
      go_wp2_with fail
      refine KS.out.mono ?_
      rintro e w1 ⟨rfl, hb⟩
      clear KS
      go_wp2_with fail
      refine (KI.out _ hb).mono ?_
      rintro e w2 ⟨rfl, hb2⟩
      have HB := Lib.hid (hb.trans (hb2.mono hb.size))
      clear hb hb2 KI
      go_wp2
      go_ret
      exact ⟨rfl, HB.out⟩
    by_cases c2 : (n : Int) ≤ i
    · clear h1 hn hL hi hk hlen P hids
      go_enter Tryd.func7, Tryd.ntmps7
      go_wp2_with fail
      refine KS.out.mono ?_
      rintro e w1 ⟨rfl, hb⟩
      clear KS
      go_wp2_with fail
      refine (KI.out _ hb).mono ?_
      rintro e w2 ⟨rfl, hb2⟩
      have HB := Lib.hid (hb.trans (hb2.mono hb.size))
      clear hb hb2 KI
      go_wp2
      go_ret
      exact ⟨rfl, HB.out⟩
    by_cases c3 : k < 0
    · clear h1 hn hL hi hk hlen P hids
      go_enter Tryd.func7, Tryd.ntmps7
      go_wp2_with fail
      refine KS.out.mono ?_
      rintro e w1 ⟨rfl, hb⟩
      clear KS
      go_wp2_with fail
      refine (KI.out _ hb).mono ?_
      rintro e w2 ⟨rfl, hb2⟩
      have HB := Lib.hid (hb.trans (hb2.mono hb.size))
      clear hb hb2 KI
      go_wp2
      go_ret
      exact ⟨rfl, HB.out⟩
    by_cases c4 : (n : Int) ≤ k
    · clear h1 hn hL hi hk hlen P hids
      go_enter Tryd.func7, Tryd.ntmps7
      go_wp2_with fail
      refine KS.out.mono ?_
      rintro e w1 ⟨rfl, hb⟩
      clear KS
      go_wp2_with fail
      refine (KI.out _ hb).mono ?_
      rintro e w2 ⟨rfl, hb2⟩
      have HB := Lib.hid (hb.trans (hb2.mono hb.size))
      clear hb hb2 KI
      go_wp2
      go_ret
      exact ⟨rfl, HB.out⟩
    obtain ⟨i, rfl⟩ : ∃ j : Nat, i = (j : Int) := ⟨i.toNat, by omega⟩
    obtain ⟨k, rfl⟩ : ∃ j : Nat, k = (j : Int) := ⟨k.toNat, by omega⟩
    have hil : i < l.length := by omega
    have hkl : k < l.length := by omega
    have hiI : (i : Int) < (n : Int) := by omega
    have hkI : (k : Int) < (n : Int) := by omega
    have hi1 : (i : Int) + 1 ≤ (n : Int) := by omega
    have hnc : (n : Int) ≤ (c : Int) := by have := hL.cap; omega
    have hw1 : IntKind.i64.wrap ((i : Int) + 1) = ((i + 1 : Nat) : Int) := by rw [IntWalk.i64_in _ (by omega)]; omega
    obtain ⟨a, rfl, hz1, hz2⟩ := hL.row.str hil
    clear hz1 hz2
    obtain ⟨x, hx⟩ : ∃ x, x = l[i]'hil := ⟨_, rfl⟩
    obtain ⟨y, hy⟩ : ∃ y, y = l[k]'hkl := ⟨_, rfl⟩
    have CI := Lib.hid fun (w : World) (h : Sl w W.heap.size (some a) l) => (show w.cell? (a.add i) = some (.string (S2.B x)) from by
      obtain ⟨b, hb, _, h2⟩ := h.row.str hil
      injection hb with hb
      subst hb
      rw [hx]
      exact h2)
    have CK := Lib.hid fun (w : World) (h : Sl w W.heap.size (some a) l) => (show w.cell? (a.add k) = some (.string (S2.B y)) from by
      obtain ⟨b, hb, _, h2⟩ := h.row.str hkl
      injection hb with hb
      subst hb
      rw [hy]
      exact h2)
    obtain ⟨Ax, hAx⟩ : ∃ Ax, Ax = (if c = i + 1 then some a else some (a.add (i + 1))) := ⟨_, rfl⟩
    have RD := Lib.hid fun (w : World) (h : S2.Row w w.heap.size (some a) (S2.Ss l)) => (show S2.Row w w.heap.size Ax (S2.Ss (l.drop (i + 1))) from by
      rw [hAx]
      by_cases e : c = i + 1
      · have := hL.cap
        exact .inl (by rw [List.drop_eq_nil_of_le (by omega)]; rfl)
      · rw [if_neg e]
        exact row_drop h (i + 1))
    have each := ids_each hids
    have KL := Lib.hid fun A' n' c' w (hn' : n' = (l.take i ++ l.drop (i + 1)).length) (hr : S2.Row w w.heap.size A' (S2.Ss (l.take i ++ l.drop (i + 1)))) => ids_any A' _ n' c' w hn' hr (by rw [hn']; simp; omega) (less_each each i)
    have KM := Lib.hid fun A' n' c' w (hn' : n' = (l.take i ++ [x] ++ l.drop i).length) (hr : S2.Row w w.heap.size A' (S2.Ss (l.take i ++ [x] ++ l.drop i))) => ids_any A' _ n' c' w hn' hr (by rw [hn']; simp; omega) (by rw [hx]; exact more_each each i hil)
    have KO := Lib.hid fun A' n' c' w (hn' : n' = ((l.set i y).set k x).length) (hr : S2.Row w w.heap.size A' (S2.Ss ((l.set i y).set k x))) => ids_any A' _ n' c' w hn' hr (by rw [hn']; simp; omega) (other_each each (by rw [hx]; exact List.getElem_mem hil) (by rw [hy]; exact List.getElem_mem hkl) i k)
    rw [ids_less hids i] at KL
    rw [show ids (l.take i ++ [x] ++ l.drop i) = false from by rw [hx]; exact ids_more l hil] at KM
    rw [show ids ((l.set i y).set k x) = decide (i = k) from by rw [hx, hy]; exact ids_other hids hil hkl] at KO
    have HN := Lib.hid hn
    have TI := Lib.hid (show i = (l.take i).length by rw [List.length_take]; omega)
    have DI := Lib.hid (show n - i = (l.drop i).length by rw [List.length_drop]; omega)
    have D1 := Lib.hid (show n - (i + 1) = (l.drop (i + 1)).length by rw [List.length_drop]; omega)
    have LL := Lib.hid (show l.length ≤ 100 by omega)
    have LI := Lib.hid hil
    have LK := Lib.hid hkl
    have S0 := Lib.hid (show Sl W W.heap.size (some a) l from ⟨hL.row, Nat.le_refl _⟩)
    have T := Lib.hid (show At W W from ⟨Below.refl _ _⟩)
    obtain ⟨q, hq⟩ : ∃ q : Bool, q = decide (i = k) := ⟨_, rfl⟩
    have hqI : ((i : Int) == (k : Int)) = q := by
      rw [hq]
      by_cases e : i = k
      · subst e; simp
      · rw [decide_eq_false e]; simp; omega
    rw [← hq] at KO
    have HAX := Lib.hid hAx
    clear h1 hn hL hi hk hlen P hids hil hkl hAx each hq hx hy
    go_enter Tryd.func7, Tryd.ntmps7
    go_wp2_with fail
    refine KS.out.mono ?_
    rintro e w1 ⟨rfl, hb⟩
    clear KS
    replace S0 := Lib.hid (S0.out.under hb (Nat.le_refl _))
    replace T := Lib.hid (T.out.step hb)
    clear hb
    go_wp2_with fail
    refine (KI.out _ T.out.bel).mono ?_
    rintro e w2 ⟨rfl, hb⟩
    have hle := T.out.bel.size
    replace S0 := Lib.hid (S0.out.under hb hle)
    replace T := Lib.hid (T.out.under hb hle)
    clear hb hle KI
    go_wp2_with fail
    replace S0 := Lib.hid S0.out.drew
    replace T := Lib.hid T.out.drew
    refine wp_region_held_drew (S := (fun _ => True)) (by kernel_rfl) trivial (fun hHeld => ?_)
    generalize w2.drew = wda at *
    refine wpAnyH_take (i := 1) (oi := ⟨_, _, _, _, _, _⟩) (v := ?_) rfl (by kernel_rfl) (by kernel_rfl) (by kernel_rfl) (fun _ _ _ h => h) (Or.inl ⟨by rfl, ?_⟩) (by assumption) ?_
    rotate_left
    · intro wz hSw
      try dsimp only at hSw
      go_simp
      try with_reducible rfl
    try simp only [Act.put, List.setIfInBounds_toArray, List.set_cons_zero, List.set_cons_succ]
    refine wpAnyH_take (i := 2) (oi := ⟨_, _, _, _, _, _⟩) (v := ?_) rfl (by kernel_rfl) (by kernel_rfl) (by kernel_rfl) (fun _ _ _ h => h) (Or.inl ⟨by rfl, ?_⟩) (by assumption) ?_
    rotate_left
    · intro wz hSw
      try dsimp only at hSw
      go_simp
      try with_reducible rfl
    try simp only [Act.put, List.setIfInBounds_toArray, List.set_cons_zero, List.set_cons_succ]
    refine wpAnyH_take (i := 3) (oi := ⟨_, _, _, _, _, _⟩) (v := .slice (some a) i c) rfl (by kernel_rfl) (by kernel_rfl) (by kernel_rfl) (fun _ _ _ h => h) (Or.inl ⟨by rfl, ?_⟩) (by assumption) ?_
    · intro wz hSw
      try dsimp only at hSw
      go_simp
      intro hx; omega
    try simp only [Act.put, List.setIfInBounds_toArray, List.set_cons_zero, List.set_cons_succ]
    refine wpAnyH_take (i := 5) (oi := ⟨_, _, _, _, _, _⟩) (v := ?_) rfl (by kernel_rfl) (by kernel_rfl) (by kernel_rfl) (fun _ _ _ h => h) (Or.inl ⟨by rfl, ?_⟩) (by assumption) ?_
    rotate_left
    · intro wz hSw
      try dsimp only at hSw
      go_simp
      try with_reducible rfl
    try simp only [Act.put, List.setIfInBounds_toArray, List.set_cons_zero, List.set_cons_succ]
    refine wpAnyH_take (i := 6) (oi := ⟨_, _, _, _, _, _⟩) (v := ?_) rfl (by kernel_rfl) (by kernel_rfl) (by kernel_rfl) (fun _ _ _ h => h) (Or.inl ⟨by rfl, ?_⟩) (by assumption) ?_
    rotate_left
    · intro wz hSw
      try dsimp only at hSw
      go_simp
      try with_reducible rfl
    try simp only [Act.put, List.setIfInBounds_toArray, List.set_cons_zero, List.set_cons_succ]
    refine wpAnyH_take (i := 7) (oi := ⟨_, _, _, _, _, _⟩) (v := .int .i64 ((i + 1 : Nat) : Int)) rfl (by kernel_rfl) (by kernel_rfl) (by kernel_rfl) (fun _ _ _ h => h) (Or.inl ⟨by rfl, ?_⟩) (by assumption) ?_
    · intro wz hSw
      try dsimp only at hSw
      go_simp
    try simp only [Act.put, List.setIfInBounds_toArray, List.set_cons_zero, List.set_cons_succ]
    refine wpAnyH_take (i := 8) (oi := ⟨_, _, _, _, _, _⟩) (v := .slice Ax (n - (i + 1)) (c - (i + 1))) rfl (by kernel_rfl) (by kernel_rfl) (by kernel_rfl) (fun _ _ _ h => h) (Or.inl ⟨by rfl, ?_⟩) (by assumption) ?_
    · intro wz hSw
      try dsimp only at hSw
      go_simp
      rw [if_pos (by omega), HAX.out]; rfl
    try simp only [Act.put, List.setIfInBounds_toArray, List.set_cons_zero, List.set_cons_succ]
    refine wpAnyH_ready (rs := [0]) (by kernel_rfl) (by simp) ?_
    refine AllReadyH.cons (o := ⟨_, _, _, _, _, _⟩) rfl (fun K hK => ?_) AllReadyH.nil
    go_simp
    have O := Lib.hid (Own.made wda)
    have HB1 := Lib.hid (show W.heap.size ≤ wda.heap.size from T.out.bel.size)
    have hb := alloc_under wda (.cells #[] 9)
    have hle := T.out.bel.size
    replace S0 := Lib.hid (S0.out.under hb S0.out.le)
    replace T := Lib.hid (T.out.under hb hle)
    clear hb hle
    clear hHeld
    refine hK.out _ _ trivial (fun hHeld => ?_)
    clear hK K
    try simp only [Act.put, List.setIfInBounds_toArray, List.set_cons_zero, List.set_cons_succ]
    generalize hg : wda.heap.size = B1 at *
    clear hg
    generalize wda.alloc (.cells #[] 9) = wa1 at *
    refine wpAnyH_ready (rs := [4]) (by kernel_rfl) (by simp) ?_
    refine AllReadyH.cons (o := ⟨_, _, _, _, _, _⟩) rfl (fun K hK => ?_) AllReadyH.nil
    refine step_app (lo := []) (ln := l.take i) rfl _ _ rfl O.out (row_take S0.out.now i) rfl rfl TI.out (by have := LL.out; have := TI.out; have := D1.out; simp; omega) ?_
    intro v' wa2 ho hb hgr
    replace S0 := Lib.hid (S0.out.under hb HB1.out)
    replace T := Lib.hid (T.out.under hb HB1.out)
    replace ho : Own wa2 B1 v' (l.take i) := ho
    obtain ⟨A4, n4, c4, rfl, hn, hc⟩ := ho.sl3
    replace O := Lib.hid ho
    clear ho hb hn hc hHeld hgr
    refine hK.out _ _ trivial (fun hHeld => ?_)
    clear hK K
    try simp only [Act.put, List.setIfInBounds_toArray, List.set_cons_zero, List.set_cons_succ]
    refine wpAnyH_ready (rs := [9]) (by kernel_rfl) (by simp) ?_
    refine AllReadyH.cons (o := ⟨_, _, _, _, _, _⟩) rfl (fun K hK => ?_) AllReadyH.nil
    refine step_app (lo := l.take i) (ln := l.drop (i + 1)) rfl _ _ rfl O.out (RD.out _ S0.out.now) rfl rfl D1.out (by have := LL.out; have := TI.out; have := D1.out; simp; omega) ?_
    intro v' wa3 ho hb hgr
    replace S0 := Lib.hid (S0.out.under hb HB1.out)
    replace T := Lib.hid (T.out.under hb HB1.out)
    obtain ⟨A9, n9, c9, rfl, hn, hc⟩ := ho.sl3
    replace O := Lib.hid ho
    have N1 := Lib.hid hn
    have C1 := Lib.hid hc
    clear ho hb hn hc hHeld hgr
    refine hK.out _ _ trivial (fun hHeld => ?_)
    clear hK K
    try simp only [Act.put, List.setIfInBounds_toArray, List.set_cons_zero, List.set_cons_succ]
    refine wpAnyH_take (i := 10) (oi := ⟨_, _, _, _, _, _⟩) (v := ?_) rfl (by kernel_rfl) (by kernel_rfl) (by kernel_rfl) (fun _ _ _ h => h) (Or.inl ⟨by rfl, ?_⟩) (by assumption) ?_
    rotate_left
    · intro wz hSw
      try dsimp only at hSw
      go_simp
      try with_reducible rfl
    try simp only [Act.put, List.setIfInBounds_toArray, List.set_cons_zero, List.set_cons_succ]
    refine wpAnyH_done (by kernel_rfl) ?_ _
    clear hHeld
    have LS := Lib.hid (show Sl wa3 wa3.heap.size A9 (l.take i ++ l.drop (i + 1)) from O.out.sl N1.out)
    have HB2 := Lib.hid (show W.heap.size ≤ wa3.heap.size from T.out.bel.size)
    generalize hg : wa3.heap.size = B2 at *
    clear hg O HB1
    go_wp2_with fail
    replace S0 := Lib.hid S0.out.drew
    replace LS := Lib.hid LS.out.drew
    replace T := Lib.hid T.out.drew
    refine wp_region_held_drew (S := (fun w' => w'.cell? (a.add i) = some (.string (S2.B x)))) (by kernel_rfl) (CI.out _ S0.out) (fun hHeld => ?_)
    generalize wa3.drew = wdb at *
    refine wpAnyH_take (i := 1) (oi := ⟨_, _, _, _, _, _⟩) (v := ?_) rfl (by kernel_rfl) (by kernel_rfl) (by kernel_rfl) (fun _ _ _ h => h) (Or.inl ⟨by rfl, ?_⟩) (by assumption) ?_
    rotate_left
    · intro wz hSw
      try dsimp only at hSw
      go_simp
      try with_reducible rfl
    try simp only [Act.put, List.setIfInBounds_toArray, List.set_cons_zero, List.set_cons_succ]
    refine wpAnyH_take (i := 2) (oi := ⟨_, _, _, _, _, _⟩) (v := ?_) rfl (by kernel_rfl) (by kernel_rfl) (by kernel_rfl) (fun _ _ _ h => h) (Or.inl ⟨by rfl, ?_⟩) (by assumption) ?_
    rotate_left
    · intro wz hSw
      try dsimp only at hSw
      go_simp
      try with_reducible rfl
    try simp only [Act.put, List.setIfInBounds_toArray, List.set_cons_zero, List.set_cons_succ]
    refine wpAnyH_take (i := 3) (oi := ⟨_, _, _, _, _, _⟩) (v := .slice (some a) i c) rfl (by kernel_rfl) (by kernel_rfl) (by kernel_rfl) (fun _ _ _ h => h) (Or.inl ⟨by rfl, ?_⟩) (by assumption) ?_
    · intro wz hSw
      try dsimp only at hSw
      go_simp
      intro hx; omega
    try simp only [Act.put, List.setIfInBounds_toArray, List.set_cons_zero, List.set_cons_succ]
    refine wpAnyH_take (i := 5) (oi := ⟨_, _, _, _, _, _⟩) (v := ?_) rfl (by kernel_rfl) (by kernel_rfl) (by kernel_rfl) (fun _ _ _ h => h) (Or.inl ⟨by rfl, ?_⟩) (by assumption) ?_
    rotate_left
    · intro wz hSw
      try dsimp only at hSw
      go_simp
      try with_reducible rfl
    try simp only [Act.put, List.setIfInBounds_toArray, List.set_cons_zero, List.set_cons_succ]
    refine wpAnyH_take (i := 6) (oi := ⟨_, _, _, _, _, _⟩) (v := ?_) rfl (by kernel_rfl) (by kernel_rfl) (by kernel_rfl) (fun _ _ _ h => h) (Or.inl ⟨by rfl, ?_⟩) (by assumption) ?_
    rotate_left
    · intro wz hSw
      try dsimp only at hSw
      go_simp
      try with_reducible rfl
    try simp only [Act.put, List.setIfInBounds_toArray, List.set_cons_zero, List.set_cons_succ]
    refine wpAnyH_take (i := 7) (oi := ⟨_, _, _, _, _, _⟩) (v := ?_) rfl (by kernel_rfl) (by kernel_rfl) (by kernel_rfl) (fun _ _ _ h => h) (Or.inl ⟨by rfl, ?_⟩) (by assumption) ?_
    rotate_left
    · intro wz hSw
      try dsimp only at hSw
      go_simp
      try with_reducible rfl
    try simp only [Act.put, List.setIfInBounds_toArray, List.set_cons_zero, List.set_cons_succ]
    refine wpAnyH_take (i := 8) (oi := ⟨_, _, _, _, _, _⟩) (v := ?_) rfl (by kernel_rfl) (by kernel_rfl) (by kernel_rfl) (fun _ _ _ h => h) (Or.inl ⟨by rfl, ?_⟩) (by assumption) ?_
    rotate_left
    · intro wz hSw
      try dsimp only at hSw
      go_simp
      try with_reducible rfl
    try simp only [Act.put, List.setIfInBounds_toArray, List.set_cons_zero, List.set_cons_succ]
    refine wpAnyH_ready (rs := [0, 9]) (by kernel_rfl) (by simp) ?_
    refine AllReadyH.cons (o := ⟨_, _, _, _, _, _⟩) rfl (fun K hK => ?_) (AllReadyH.cons (o := ⟨_, _, _, _, _, _⟩) rfl (fun K hK => ?_) AllReadyH.nil)
    · go_simp
      have O := Lib.hid (Own.made wdb)
      have HB3 := Lib.hid (show W.heap.size ≤ wdb.heap.size from T.out.bel.size)
      have HB32 := Lib.hid (show B2 ≤ wdb.heap.size from LS.out.le)
      have HS1 := Lib.hid (show wdb.heap.size < (wdb.alloc (.cells #[] 9)).heap.size by simp)
      have hb := alloc_under wdb (.cells #[] 9)
      have hle := T.out.bel.size
      replace S0 := Lib.hid (S0.out.under hb S0.out.le)
      replace LS := Lib.hid (LS.out.under hb LS.out.le)
      replace T := Lib.hid (T.out.under hb hle)
      clear hb hle
      clear hHeld
      refine hK.out _ _ (CI.out _ S0.out) (fun hHeld => ?_)
      clear hK K
      try simp only [Act.put, List.setIfInBounds_toArray, List.set_cons_zero, List.set_cons_succ]
      generalize hg : wdb.heap.size = B3 at *
      clear hg
      generalize wdb.alloc (.cells #[] 9) = wb1 at *
      refine wpAnyH_ready (rs := [4, 9]) (by kernel_rfl) (by simp) ?_
      refine AllReadyH.cons (o := ⟨_, _, _, _, _, _⟩) rfl (fun K hK => ?_) (AllReadyH.cons (o := ⟨_, _, _, _, _, _⟩) rfl (fun K hK => ?_) AllReadyH.nil)
      · refine step_app (lo := []) (ln := l.take i) rfl _ _ rfl O.out (row_take S0.out.now i) rfl rfl TI.out (by have := LL.out; have := TI.out; simp; omega) ?_
        intro v' wb2 ho hb hgr
        replace S0 := Lib.hid (S0.out.under hb HB3.out)
        replace LS := Lib.hid (LS.out.under hb HB32.out)
        replace T := Lib.hid (T.out.under hb HB3.out)
        replace ho : Own wb2 B3 v' (l.take i) := ho
        obtain ⟨A4, n4, c4, rfl, hn, hc⟩ := ho.sl3
        replace O := Lib.hid ho
        clear ho hb hn hc hHeld hgr
        refine hK.out _ _ (CI.out _ S0.out) (fun hHeld => ?_)
        clear hK K
        try simp only [Act.put, List.setIfInBounds_toArray, List.set_cons_zero, List.set_cons_succ]
        refine wpAnyH_ready (rs := [9]) (by kernel_rfl) (by simp) ?_
        refine AllReadyH.cons (o := ⟨_, _, _, _, _, _⟩) rfl (fun K hK => ?_) AllReadyH.nil
        go_simp
        have LT := Lib.hid (show Sl (wb2.alloc (.cells #[.string (S2.B x)] 9)) (wb2.alloc (.cells #[.string (S2.B x)] 9)).heap.size (some ⟨wb2.heap.size, 0, none⟩) [x] from ⟨row_lit wb2 [x], Nat.le_refl _⟩)
        have hb := alloc_under wb2 (.cells #[.string (S2.B x)] 9)
        have hle := T.out.bel.size
        replace S0 := Lib.hid (S0.out.under hb S0.out.le)
        replace LS := Lib.hid (LS.out.under hb LS.out.le)
        replace O := Lib.hid (O.out.step hb)
        replace T := Lib.hid (T.out.under hb hle)
        clear hb hle
        clear hHeld
        refine hK.out _ _ (CI.out _ S0.out) (fun hHeld => ?_)
        clear hK K
        try simp only [Act.put, List.setIfInBounds_toArray, List.set_cons_zero, List.set_cons_succ]
        generalize hgl : (wb2.alloc (.cells #[.string (S2.B x)] 9)).heap.size = BL at *
        generalize hg : wb2.heap.size = gl at *
        clear hg hgl
        generalize wb2.alloc (.cells #[.string (S2.B x)] 9) = wb3 at *
        refine wpAnyH_ready (rs := [10]) (by kernel_rfl) (by simp) ?_
        refine AllReadyH.cons (o := ⟨_, _, _, _, _, _⟩) rfl (fun K hK => ?_) AllReadyH.nil
        refine step_app (lo := l.take i) (ln := [x]) rfl _ _ rfl O.out LT.out.now rfl rfl rfl (by have := LL.out; have := TI.out; simp; omega) ?_
        intro v' wb4 ho hb hgr
        replace S0 := Lib.hid (S0.out.under hb HB3.out)
        replace LS := Lib.hid (LS.out.under hb HB32.out)
        replace T := Lib.hid (T.out.under hb HB3.out)
        obtain ⟨A5, n5, c5, rfl, hn, hc⟩ := ho.sl3
        replace O := Lib.hid ho
        have N5 := Lib.hid hn
        clear ho hb hn hc hHeld hgr LT
        refine hK.out _ _ (CI.out _ S0.out) (fun hHeld => ?_)
        clear hK K
        try simp only [Act.put, List.setIfInBounds_toArray, List.set_cons_zero, List.set_cons_succ]
        refine wpAnyH_take (i := 11) (oi := ⟨_, _, _, _, _, _⟩) (v := ?_) rfl (by kernel_rfl) (by kernel_rfl) (by kernel_rfl) (fun _ _ _ h => h) (Or.inl ⟨by rfl, ?_⟩) (by assumption) ?_
        rotate_left
        · intro wz hSw
          try dsimp only at hSw
          go_simp
          try with_reducible rfl
        try simp only [Act.put, List.setIfInBounds_toArray, List.set_cons_zero, List.set_cons_succ]
        refine wpAnyH_done (by kernel_rfl) ?_ _
        clear hHeld
        go_wp2_with (at_builtin; refine wpList_app (lo := l.take i ++ [x]) (ln := l.drop i) rfl _ _ rfl O.out (row_drop S0.out.now i) rfl rfl DI.out (by have := LL.out; have := TI.out; have := DI.out; simp; omega) ?_)
        intro v' wm ho hb
        replace S0 := Lib.hid (S0.out.under hb HB3.out)
        replace LS := Lib.hid (LS.out.under hb HB32.out)
        replace T := Lib.hid (T.out.under hb HB3.out)
        replace ho : Own wm B3 v' (l.take i ++ [x] ++ l.drop i) := by rw [List.append_assoc]; exact ho
        obtain ⟨A6, n6, c6, rfl, hn, hc⟩ := ho.sl3
        have N6 := Lib.hid hn
        have MS := Lib.hid (show Sl wm wm.heap.size A6 (l.take i ++ [x] ++ l.drop i) from ho.sl hn)
        have HB4 := Lib.hid (show W.heap.size ≤ wm.heap.size from T.out.bel.size)
        have HB42 := Lib.hid (show B2 ≤ wm.heap.size from LS.out.le)
        clear ho hb hn hc O HB3 HB32
        have OM := Own.made wm
        have hb := alloc_under wm (.cells #[] 9)
        replace S0 := Lib.hid (S0.out.under hb HB4.out)
        replace LS := Lib.hid (LS.out.under hb HB42.out)
        replace MS := Lib.hid (MS.out.under hb (Nat.le_refl _))
        replace T := Lib.hid (T.out.under hb HB4.out)
        have O := Lib.hid OM
        clear OM hb
        go_wp2_with (at_builtin; refine wpList_app (lo := []) (ln := l) rfl _ _ rfl O.out S0.out.now rfl rfl HN.out (by have := LL.out; simp; omega) ?_)
        intro v' wo ho hb
        replace S0 := Lib.hid (S0.out.under hb HB4.out)
        replace LS := Lib.hid (LS.out.under hb HB42.out)
        replace MS := Lib.hid (MS.out.under hb (Nat.le_refl _))
        replace T := Lib.hid (T.out.under hb HB4.out)
        replace ho : Own wo wm.heap.size v' l := ho
        generalize hg : wm.heap.size = B4 at *
        obtain ⟨A7, n7, c7, rfl, hn, hc⟩ := ho.sl3
        obtain ⟨g, rfl⟩ := ho.blk (by have := LI.out; omega)
        obtain rfl : n = n7 := HN.out.trans hn.symm
        have O := Lib.hid ho
        clear hg ho hb hc hn
        have e1 : n = (l.set i y).length := by rw [List.length_set]; exact HN.out
        have O1 := O.out.set HN.out i y
        obtain ⟨cfa, cfb⟩ := O.out.cell HN.out LI.out
        have ck := CK.out _ S0.out
        have ci1 := CI.out _ (S0.out.under O1.2 HB4.out)
        obtain ⟨cfc, cfd⟩ := O1.1.cell e1 (j := k) (by rw [List.length_set]; exact LK.out)
        have O2 := O1.1.set e1 k x
        have hbs := O1.2.trans O2.2
        replace S0 := Lib.hid (S0.out.under hbs HB4.out)
        replace LS := Lib.hid (LS.out.under hbs HB42.out)
        replace MS := Lib.hid (MS.out.under hbs (Nat.le_refl _))
        replace T := Lib.hid (T.out.under hbs HB4.out)
        have e2 := Lib.hid (show n = ((l.set i y).set k x).length by rw [List.length_set]; exact e1)
        have OS := Lib.hid (O2.1.sl e2.out)
        clear O1 O2 hbs e1 O
        go_wp2_with fail
        clear cfa cfb ck ci1 cfc cfd S0
        refine (KL.out A9 n9 c9 _ N1.out LS.out.now).mono ?_
        rintro e wx1 ⟨rfl, hb⟩
        replace MS := Lib.hid (MS.out.under hb MS.out.le)
        replace OS := Lib.hid (OS.out.under hb OS.out.le)
        have hle := T.out.bel.size
        replace T := Lib.hid (T.out.under hb hle)
        clear hb hle LS KL
        go_wp2_with fail
        refine (KM.out A6 n6 c6 _ N6.out MS.out.now).mono ?_
        rintro e wx2 ⟨rfl, hb⟩
        replace OS := Lib.hid (OS.out.under hb OS.out.le)
        have hle := T.out.bel.size
        replace T := Lib.hid (T.out.under hb hle)
        clear hb hle MS KM
        go_wp2_with fail
        refine (KO.out _ n c7 _ e2.out OS.out.now).mono ?_
        rintro e wx3 ⟨rfl, hb⟩
        have hle := T.out.bel.size
        replace T := Lib.hid (T.out.under hb hle)
        clear hb hle OS KO
        go_wp2
        go_ret
        exact ⟨by simp, T.out.bel⟩
      · go_simp
        have HGL := Lib.hid (show B3 < wb1.heap.size from Nat.lt_of_lt_of_le HS1.out (Nat.le_refl _))
        have LT := Lib.hid (show Sl (wb1.alloc (.cells #[.string (S2.B x)] 9)) (wb1.alloc (.cells #[.string (S2.B x)] 9)).heap.size (some ⟨wb1.heap.size, 0, none⟩) [x] from ⟨row_lit wb1 [x], Nat.le_refl _⟩)
        have hb := alloc_under wb1 (.cells #[.string (S2.B x)] 9)
        have hle := T.out.bel.size
        replace S0 := Lib.hid (S0.out.under hb S0.out.le)
        replace LS := Lib.hid (LS.out.under hb LS.out.le)
        replace O := Lib.hid (O.out.step hb)
        replace T := Lib.hid (T.out.under hb hle)
        clear hb hle
        clear hHeld
        refine hK.out _ _ (CI.out _ S0.out) (fun hHeld => ?_)
        clear hK K
        try simp only [Act.put, List.setIfInBounds_toArray, List.set_cons_zero, List.set_cons_succ]
        generalize hgl : (wb1.alloc (.cells #[.string (S2.B x)] 9)).heap.size = BL at *
        generalize hg : wb1.heap.size = gl at *
        clear hg hgl
        generalize wb1.alloc (.cells #[.string (S2.B x)] 9) = wb2 at *
        refine wpAnyH_ready (rs := [4]) (by kernel_rfl) (by simp) ?_
        refine AllReadyH.cons (o := ⟨_, _, _, _, _, _⟩) rfl (fun K hK => ?_) AllReadyH.nil
        refine step_app (lo := []) (ln := l.take i) rfl _ _ rfl O.out (row_take S0.out.now i) rfl rfl TI.out (by have := LL.out; have := TI.out; simp; omega) ?_
        intro v' wb3 ho hb hgr
        replace LT := Lib.hid (LT.out.other hgr HGL.out)
        replace S0 := Lib.hid (S0.out.under hb HB3.out)
        replace LS := Lib.hid (LS.out.under hb HB32.out)
        replace T := Lib.hid (T.out.under hb HB3.out)
        replace ho : Own wb3 B3 v' (l.take i) := ho
        obtain ⟨A4, n4, c4, rfl, hn, hc⟩ := ho.sl3
        replace O := Lib.hid ho
        clear ho hb hn hc hHeld hgr
        refine hK.out _ _ (CI.out _ S0.out) (fun hHeld => ?_)
        clear hK K
        try simp only [Act.put, List.setIfInBounds_toArray, List.set_cons_zero, List.set_cons_succ]
        refine wpAnyH_ready (rs := [10]) (by kernel_rfl) (by simp) ?_
        refine AllReadyH.cons (o := ⟨_, _, _, _, _, _⟩) rfl (fun K hK => ?_) AllReadyH.nil
        refine step_app (lo := l.take i) (ln := [x]) rfl _ _ rfl O.out LT.out.now rfl rfl rfl (by have := LL.out; have := TI.out; simp; omega) ?_
        intro v' wb4 ho hb hgr
        replace S0 := Lib.hid (S0.out.under hb HB3.out)
        replace LS := Lib.hid (LS.out.under hb HB32.out)
        replace T := Lib.hid (T.out.under hb HB3.out)
        obtain ⟨A5, n5, c5, rfl, hn, hc⟩ := ho.sl3
        replace O := Lib.hid ho
        have N5 := Lib.hid hn
        clear ho hb hn hc hHeld hgr LT
        refine hK.out _ _ (CI.out _ S0.out) (fun hHeld => ?_)
        clear hK K
        try simp only [Act.put, List.setIfInBounds_toArray, List.set_cons_zero, List.set_cons_succ]
        refine wpAnyH_take (i := 11) (oi := ⟨_, _, _, _, _, _⟩) (v := ?_) rfl (by kernel_rfl) (by kernel_rfl) (by kernel_rfl) (fun _ _ _ h => h) (Or.inl ⟨by rfl, ?_⟩) (by assumption) ?_
        rotate_left
        · intro wz hSw
          try dsimp only at hSw
          go_simp
          try with_reducible rfl
        try simp only [Act.put, List.setIfInBounds_toArray, List.set_cons_zero, List.set_cons_succ]
        refine wpAnyH_done (by kernel_rfl) ?_ _
        clear hHeld
        go_wp2_with (at_builtin; refine wpList_app (lo := l.take i ++ [x]) (ln := l.drop i) rfl _ _ rfl O.out (row_drop S0.out.now i) rfl rfl DI.out (by have := LL.out; have := TI.out; have := DI.out; simp; omega) ?_)
        intro v' wm ho hb
        replace S0 := Lib.hid (S0.out.under hb HB3.out)
        replace LS := Lib.hid (LS.out.under hb HB32.out)
        replace T := Lib.hid (T.out.under hb HB3.out)
        replace ho : Own wm B3 v' (l.take i ++ [x] ++ l.drop i) := by rw [List.append_assoc]; exact ho
        obtain ⟨A6, n6, c6, rfl, hn, hc⟩ := ho.sl3
        have N6 := Lib.hid hn
        have MS := Lib.hid (show Sl wm wm.heap.size A6 (l.take i ++ [x] ++ l.drop i) from ho.sl hn)
        have HB4 := Lib.hid (show W.heap.size ≤ wm.heap.size from T.out.bel.size)
        have HB42 := Lib.hid (show B2 ≤ wm.heap.size from LS.out.le)
        clear ho hb hn hc O HB3 HB32
        have OM := Own.made wm
        have hb := alloc_under wm (.cells #[] 9)
        replace S0 := Lib.hid (S0.out.under hb HB4.out)
        replace LS := Lib.hid (LS.out.under hb HB42.out)
        replace MS := Lib.hid (MS.out.under hb (Nat.le_refl _))
        replace T := Lib.hid (T.out.under hb HB4.out)
        have O := Lib.hid OM
        clear OM hb
        go_wp2_with (at_builtin; refine wpList_app (lo := []) (ln := l) rfl _ _ rfl O.out S0.out.now rfl rfl HN.out (by have := LL.out; simp; omega) ?_)
        intro v' wo ho hb
        replace S0 := Lib.hid (S0.out.under hb HB4.out)
        replace LS := Lib.hid (LS.out.under hb HB42.out)
        replace MS := Lib.hid (MS.out.under hb (Nat.le_refl _))
        replace T := Lib.hid (T.out.under hb HB4.out)
        replace ho : Own wo wm.heap.size v' l := ho
        generalize hg : wm.heap.size = B4 at *
        obtain ⟨A7, n7, c7, rfl, hn, hc⟩ := ho.sl3
        obtain ⟨g, rfl⟩ := ho.blk (by have := LI.out; omega)
        obtain rfl : n = n7 := HN.out.trans hn.symm
        have O := Lib.hid ho
        clear hg ho hb hc hn
        have e1 : n = (l.set i y).length := by rw [List.length_set]; exact HN.out
        have O1 := O.out.set HN.out i y
        obtain ⟨cfa, cfb⟩ := O.out.cell HN.out LI.out
        have ck := CK.out _ S0.out
        have ci1 := CI.out _ (S0.out.under O1.2 HB4.out)
        obtain ⟨cfc, cfd⟩ := O1.1.cell e1 (j := k) (by rw [List.length_set]; exact LK.out)
        have O2 := O1.1.set e1 k x
        have hbs := O1.2.trans O2.2
        replace S0 := Lib.hid (S0.out.under hbs HB4.out)
        replace LS := Lib.hid (LS.out.under hbs HB42.out)
        replace MS := Lib.hid (MS.out.under hbs (Nat.le_refl _))
        replace T := Lib.hid (T.out.under hbs HB4.out)
        have e2 := Lib.hid (show n = ((l.set i y).set k x).length by rw [List.length_set]; exact e1)
        have OS := Lib.hid (O2.1.sl e2.out)
        clear O1 O2 hbs e1 O
        go_wp2_with fail
        clear cfa cfb ck ci1 cfc cfd S0
        refine (KL.out A9 n9 c9 _ N1.out LS.out.now).mono ?_
        rintro e wx1 ⟨rfl, hb⟩
        replace MS := Lib.hid (MS.out.under hb MS.out.le)
        replace OS := Lib.hid (OS.out.under hb OS.out.le)
        have hle := T.out.bel.size
        replace T := Lib.hid (T.out.under hb hle)
        clear hb hle LS KL
        go_wp2_with fail
        refine (KM.out A6 n6 c6 _ N6.out MS.out.now).mono ?_
        rintro e wx2 ⟨rfl, hb⟩
        replace OS := Lib.hid (OS.out.under hb OS.out.le)
        have hle := T.out.bel.size
        replace T := Lib.hid (T.out.under hb hle)
        clear hb hle MS KM
        go_wp2_with fail
        refine (KO.out _ n c7 _ e2.out OS.out.now).mono ?_
        rintro e wx3 ⟨rfl, hb⟩
        have hle := T.out.bel.size
        replace T := Lib.hid (T.out.under hb hle)
        clear hb hle OS KO
        go_wp2
        go_ret
        exact ⟨by simp, T.out.bel⟩
    · go_simp
      have LT := Lib.hid (show Sl (wdb.alloc (.cells #[.string (S2.B x)] 9)) (wdb.alloc (.cells #[.string (S2.B x)] 9)).heap.size (some ⟨wdb.heap.size, 0, none⟩) [x] from ⟨row_lit wdb [x], Nat.le_refl _⟩)
      have hb := alloc_under wdb (.cells #[.string (S2.B x)] 9)
      have hle := T.out.bel.size
      replace S0 := Lib.hid (S0.out.under hb S0.out.le)
      replace LS := Lib.hid (LS.out.under hb LS.out.le)
      replace T := Lib.hid (T.out.under hb hle)
      clear hb hle
      clear hHeld
      refine hK.out _ _ (CI.out _ S0.out) (fun hHeld => ?_)
      clear hK K
      try simp only [Act.put, List.setIfInBounds_toArray, List.set_cons_zero, List.set_cons_succ]
      generalize hgl : (wdb.alloc (.cells #[.string (S2.B x)] 9)).heap.size = BL at *
      generalize hg : wdb.heap.size = gl at *
      clear hg hgl
      generalize wdb.alloc (.cells #[.string (S2.B x)] 9) = wb1 at *
      refine wpAnyH_ready (rs := [0]) (by kernel_rfl) (by simp) ?_
      refine AllReadyH.cons (o := ⟨_, _, _, _, _, _⟩) rfl (fun K hK => ?_) AllReadyH.nil
      go_simp
      have O := Lib.hid (Own.made wb1)
      have HB3 := Lib.hid (show W.heap.size ≤ wb1.heap.size from T.out.bel.size)
      have HB32 := Lib.hid (show B2 ≤ wb1.heap.size from LS.out.le)
      have HS1 := Lib.hid (show wb1.heap.size < (wb1.alloc (.cells #[] 9)).heap.size by simp)
      have HBL := Lib.hid (show BL ≤ wb1.heap.size from LT.out.le)
      have hb := alloc_under wb1 (.cells #[] 9)
      have hle := T.out.bel.size
      replace S0 := Lib.hid (S0.out.under hb S0.out.le)
      replace LS := Lib.hid (LS.out.under hb LS.out.le)
      replace LT := Lib.hid (LT.out.under hb LT.out.le)
      replace T := Lib.hid (T.out.under hb hle)
      clear hb hle
      clear hHeld
      refine hK.out _ _ (CI.out _ S0.out) (fun hHeld => ?_)
      clear hK K
      try simp only [Act.put, List.setIfInBounds_toArray, List.set_cons_zero, List.set_cons_succ]
      generalize hg : wb1.heap.size = B3 at *
      clear hg
      generalize wb1.alloc (.cells #[] 9) = wb2 at *
      refine wpAnyH_ready (rs := [4]) (by kernel_rfl) (by simp) ?_
      refine AllReadyH.cons (o := ⟨_, _, _, _, _, _⟩) rfl (fun K hK => ?_) AllReadyH.nil
      refine step_app (lo := []) (ln := l.take i) rfl _ _ rfl O.out (row_take S0.out.now i) rfl rfl TI.out (by have := LL.out; have := TI.out; simp; omega) ?_
      intro v' wb3 ho hb hgr
      replace S0 := Lib.hid (S0.out.under hb HB3.out)
      replace LS := Lib.hid (LS.out.under hb HB32.out)
      replace LT := Lib.hid (LT.out.under hb HBL.out)
      replace T := Lib.hid (T.out.under hb HB3.out)
      replace ho : Own wb3 B3 v' (l.take i) := ho
      obtain ⟨A4, n4, c4, rfl, hn, hc⟩ := ho.sl3
      replace O := Lib.hid ho
      clear ho hb hn hc hHeld hgr
      refine hK.out _ _ (CI.out _ S0.out) (fun hHeld => ?_)
      clear hK K
      try simp only [Act.put, List.setIfInBounds_toArray, List.set_cons_zero, List.set_cons_succ]
      refine wpAnyH_ready (rs := [10]) (by kernel_rfl) (by simp) ?_
      refine AllReadyH.cons (o := ⟨_, _, _, _, _, _⟩) rfl (fun K hK => ?_) AllReadyH.nil
      refine step_app (lo := l.take i) (ln := [x]) rfl _ _ rfl O.out LT.out.now rfl rfl rfl (by have := LL.out; have := TI.out; simp; omega) ?_
      intro v' wb4 ho hb hgr
      replace S0 := Lib.hid (S0.out.under hb HB3.out)
      replace LS := Lib.hid (LS.out.under hb HB32.out)
      replace T := Lib.hid (T.out.under hb HB3.out)
      obtain ⟨A5, n5, c5, rfl, hn, hc⟩ := ho.sl3
      replace O := Lib.hid ho
      have N5 := Lib.hid hn
      clear ho hb hn hc hHeld hgr LT
      refine hK.out _ _ (CI.out _ S0.out) (fun hHeld => ?_)
      clear hK K
      try simp only [Act.put, List.setIfInBounds_toArray, List.set_cons_zero, List.set_cons_succ]
      refine wpAnyH_take (i := 11) (oi := ⟨_, _, _, _, _, _⟩) (v := ?_) rfl (by kernel_rfl) (by kernel_rfl) (by kernel_rfl) (fun _ _ _ h => h) (Or.inl ⟨by rfl, ?_⟩) (by assumption) ?_
      rotate_left
      · intro wz hSw
        try dsimp only at hSw
        go_simp
        try with_reducible rfl
      try simp only [Act.put, List.setIfInBounds_toArray, List.set_cons_zero, List.set_cons_succ]
      refine wpAnyH_done (by kernel_rfl) ?_ _
      clear hHeld
      go_wp2_with (at_builtin; refine wpList_app (lo := l.take i ++ [x]) (ln := l.drop i) rfl _ _ rfl O.out (row_drop S0.out.now i) rfl rfl DI.out (by have := LL.out; have := TI.out; have := DI.out; simp; omega) ?_)
      intro v' wm ho hb
      replace S0 := Lib.hid (S0.out.under hb HB3.out)
      replace LS := Lib.hid (LS.out.under hb HB32.out)
      replace T := Lib.hid (T.out.under hb HB3.out)
      replace ho : Own wm B3 v' (l.take i ++ [x] ++ l.drop i) := by rw [List.append_assoc]; exact ho
      obtain ⟨A6, n6, c6, rfl, hn, hc⟩ := ho.sl3
      have N6 := Lib.hid hn
      have MS := Lib.hid (show Sl wm wm.heap.size A6 (l.take i ++ [x] ++ l.drop i) from ho.sl hn)
      have HB4 := Lib.hid (show W.heap.size ≤ wm.heap.size from T.out.bel.size)
      have HB42 := Lib.hid (show B2 ≤ wm.heap.size from LS.out.le)
      clear ho hb hn hc O HB3 HB32
      have OM := Own.made wm
      have hb := alloc_under wm (.cells #[] 9)
      replace S0 := Lib.hid (S0.out.under hb HB4.out)
      replace LS := Lib.hid (LS.out.under hb HB42.out)
      replace MS := Lib.hid (MS.out.under hb (Nat.le_refl _))
      replace T := Lib.hid (T.out.under hb HB4.out)
      have O := Lib.hid OM
      clear OM hb
      go_wp2_with (at_builtin; refine wpList_app (lo := []) (ln := l) rfl _ _ rfl O.out S0.out.now rfl rfl HN.out (by have := LL.out; simp; omega) ?_)
      intro v' wo ho hb
      replace S0 := Lib.hid (S0.out.under hb HB4.out)
      replace LS := Lib.hid (LS.out.under hb HB42.out)
      replace MS := Lib.hid (MS.out.under hb (Nat.le_refl _))
      replace T := Lib.hid (T.out.under hb HB4.out)
      replace ho : Own wo wm.heap.size v' l := ho
      generalize hg : wm.heap.size = B4 at *
      obtain ⟨A7, n7, c7, rfl, hn, hc⟩ := ho.sl3
      obtain ⟨g, rfl⟩ := ho.blk (by have := LI.out; omega)
      obtain rfl : n = n7 := HN.out.trans hn.symm
      have O := Lib.hid ho
      clear hg ho hb hc hn
      have e1 : n = (l.set i y).length := by rw [List.length_set]; exact HN.out
      have O1 := O.out.set HN.out i y
      obtain ⟨cfa, cfb⟩ := O.out.cell HN.out LI.out
      have ck := CK.out _ S0.out
      have ci1 := CI.out _ (S0.out.under O1.2 HB4.out)
      obtain ⟨cfc, cfd⟩ := O1.1.cell e1 (j := k) (by rw [List.length_set]; exact LK.out)
      have O2 := O1.1.set e1 k x
      have hbs := O1.2.trans O2.2
      replace S0 := Lib.hid (S0.out.under hbs HB4.out)
      replace LS := Lib.hid (LS.out.under hbs HB42.out)
      replace MS := Lib.hid (MS.out.under hbs (Nat.le_refl _))
      replace T := Lib.hid (T.out.under hbs HB4.out)
      have e2 := Lib.hid (show n = ((l.set i y).set k x).length by rw [List.length_set]; exact e1)
      have OS := Lib.hid (O2.1.sl e2.out)
      clear O1 O2 hbs e1 O
      go_wp2_with fail
      clear cfa cfb ck ci1 cfc cfd S0
      refine (KL.out A9 n9 c9 _ N1.out LS.out.now).mono ?_
      rintro e wx1 ⟨rfl, hb⟩
      replace MS := Lib.hid (MS.out.under hb MS.out.le)
      replace OS := Lib.hid (OS.out.under hb OS.out.le)
      have hle := T.out.bel.size
      replace T := Lib.hid (T.out.under hb hle)
      clear hb hle LS KL
      go_wp2_with fail
      refine (KM.out A6 n6 c6 _ N6.out MS.out.now).mono ?_
      rintro e wx2 ⟨rfl, hb⟩
      replace OS := Lib.hid (OS.out.under hb OS.out.le)
      have hle := T.out.bel.size
      replace T := Lib.hid (T.out.under hb hle)
      clear hb hle MS KM
      go_wp2_with fail
      refine (KO.out _ n c7 _ e2.out OS.out.now).mono ?_
      rintro e wx3 ⟨rfl, hb⟩
      have hle := T.out.bel.size
      replace T := Lib.hid (T.out.under hb hle)
      clear hb hle OS KO
      go_wp2
      go_ret
      exact ⟨by simp, T.out.bel⟩
end Idt
end Go.Proofs.YtcbhjagcfbinoaaDoor
