/-
  Layer 7: the law's own 'chosen'.
-/
import Derived.Test.YtjpgadiobgbchaaDoorShareWith
import Derived.Deep.Slices
import Derived.OwnWalk
namespace Go.Proofs.YtjpgadiobgbchaaDoor
open Go.RowKit
namespace Sh
attribute [local go_sem] S3.B_size S3.B_app S3.B_list

theorem own_sl' {w : World} {base n k : Nat} {e : TypeId} {v : Value} {xs : List Value} (h : w.ownsRow base e k v n xs) : ∃ (A : Option Addr) (c : Nat), v = .slice A n c ∧ n ≤ c := by
  rcases h.2 with ⟨rfl, rfl⟩ | ⟨g', cap, cur, rfl, _, _, hc, _⟩
  · exact ⟨none, 0, rfl, Nat.le_refl _⟩
  · exact ⟨_, cap, rfl, hc⟩
/-- What 'chosen' hands back: some of the shares, no X twice. -/
structure Ch (sh M : List (Int × Int)) : Prop where
  sub : ∀ p ∈ M, p ∈ sh
  one : M.Pairwise fun p q => p.1 ≠ q.1
theorem Ch.add {sh M : List (Int × Int)} (h : Ch sh M) {p : Int × Int} (hp : p ∈ sh) (hn : ∀ q ∈ M, q.1 ≠ p.1) : Ch sh (M ++ [p]) := by
  refine ⟨fun q hq => ?_, ?_⟩
  · rcases List.mem_append.1 hq with h1 | h1
    · exact h.sub q h1
    · rw [List.mem_singleton.1 h1]; exact hp
  · rw [List.pairwise_append]
    refine ⟨h.one, by simp, fun q hq r hr => ?_⟩
    rw [List.mem_singleton.1 hr]
    exact hn q hq
def seen (M : List (Int × Int)) (X : Int) (k : Nat) : Bool := (M.take k).any fun p => p.1 == X
theorem seen_succ {M : List (Int × Int)} {X : Int} {k : Nat} (h : k < M.length) : seen M X (k + 1) = (seen M X k || (M[k]).1 == X) := by
  unfold seen
  rw [List.take_add_one, List.getElem?_eq_getElem h, List.any_append]
  simp only [Option.toList, List.any_cons, List.any_nil, Bool.or_false]
theorem seen_all {M : List (Int × Int)} {X : Int} (h : seen M X M.length = false) : ∀ q ∈ M, q.1 ≠ X := by
  unfold seen at h
  rw [List.take_length] at h
  intro q hq e
  have := List.any_eq_false.1 h q hq
  rw [e] at this
  simp at this

set_option maxHeartbeats 8000000 in
set_option maxRecDepth 100000 in
theorem chosen_any (A B2 : Option Addr) (sh : List (Int × Int)) (order : List Int) (c c2 : Nat) (w : World) (h : Rw w A sh) (hy : S2.Row w w.heap.size B2 (S2.Zs order)) (hn : sh.length ≤ 100) (hom : order.length ≤ 4611686018427387904) :
    Calls Tryd.prog 16 #[.slice A sh.length c, .slice B2 order.length c2] w fun e w' => (∃ (M : List (Int × Int)) (v : Value), e = .returned v ∧ M.length ≤ 24 ∧ Ch sh M ∧ w'.ownsRow w.heap.size 38 2 v M.length (Sc M)) ∧ Below w.heap.size w w' := by
  have hn' : (sh.length : Int) ≤ 100 := by omega
  have hom' : (order.length : Int) ≤ 4611686018427387904 := by omega
  have RL := Lib.hid h
  have HY := Lib.hid hy
  clear h hy hn hom
  obtain ⟨i0, hi0, hz0, hz1, hz2⟩ := info_parts infoShare
  go_enter Tryd.func16, Tryd.ntmps16
  go_wp2
  go_loopw [5, 6] (fun vo vi wr => ∃ (i : Nat) (M : List (Int × Int)), i ≤ 24 ∧ M.length ≤ i ∧ vi = .int .i64 (i : Int) ∧ Ch sh M ∧ wr.ownsRow w.heap.size 38 2 vo M.length (Sc M) ∧ Below w.heap.size w wr) (fun _ vi _ => 24 - (intOf vi).toNat)
  case atStart => exact ⟨0, [], by omega, Nat.le_refl _, rfl, ⟨fun _ h => by simp at h, List.Pairwise.nil⟩, World.ownsRow_nil _ _ _ _, Below.refl _ _⟩
  case round =>
    obtain ⟨i, M, hi, hMi, rfl, hch, hown, hbel⟩ := hrel
    by_cases hio : i < order.length
    · have hio' : (i : Int) < (order.length : Int) := by omega
      by_cases hi24 : i < 24
      · have hi24' : (i : Int) < 24 := by omega
        obtain ⟨b2, rfl, hb2, hoc0⟩ := HY.out.num hio
        obtain ⟨oz, hoz⟩ : ∃ o, o = order[i] := ⟨_, rfl⟩
        rw [← hoz] at hoc0
        have hoc := (hbel.cell (p := b2.add i) (by rw [S2.add_block]; exact hb2)).trans hoc0
        have HCH := Lib.hid hch
        have HO := Lib.hid hown
        have HB := Lib.hid hbel
        have HM24 := Lib.hid hMi
        clear hoz hch hown hbel hi
        by_cases hneg : oz < 0
        · go_wp2
          go_roundw
          case rel => exact ⟨i + 1, M, hi24, by have := HM24.out; omega, by go_num, HCH.out, HO.out, HB.out⟩
          case measure => simp [intOf]; omega
        obtain ⟨o, rfl⟩ := Int.eq_ofNat_of_zero_le (show 0 ≤ oz by omega)
        by_cases hlo : o < sh.length
        · have hlo' : (o : Int) < (sh.length : Int) := by omega
          obtain ⟨a3, rfl, hab3, hX0, hY0⟩ := row_at RL.out.row hlo
          have hmem : sh[o] ∈ sh := List.getElem_mem hlo
          obtain ⟨X, hX⟩ : ∃ x, x = sh[o].1 := ⟨_, rfl⟩
          obtain ⟨Y, hY⟩ : ∃ x, x = sh[o].2 := ⟨_, rfl⟩
          rw [← hX] at hX0
          rw [← hY] at hY0
          have hmem2 : (X, Y) ∈ sh := by rw [hX, hY]; exact hmem
          have HX : Hid (∀ wc, Below w.heap.size w wc → wc.cell? (a3.add (o * 2)) = some (.int .i64 X) ∧ wc.cell? ⟨(a3.add (o * 2)).block, (a3.add (o * 2)).off + 1, none⟩ = some (.int .i64 Y) ∧ wc.cell? (b2.add i) = some (.int .i64 (o : Int))) := Lib.hid fun wc hb =>
            ⟨(hb.cell (p := a3.add (o * 2)) (by rw [S2.add_block]; exact hab3)).trans hX0, (hb.cell (p := ⟨(a3.add (o * 2)).block, (a3.add (o * 2)).off + 1, none⟩) (by rw [S2.add_block]; exact hab3)).trans hY0, (hb.cell (p := b2.add i) (by rw [S2.add_block]; exact hb2)).trans hoc0⟩
          have HME := Lib.hid hmem2
          clear hX hY hmem hmem2 hX0 hY0 hoc0 hneg
          obtain ⟨A5, c5, rfl, hc5⟩ : ∃ (A : Option Addr) (c : Nat), _ = Value.slice A M.length c ∧ M.length ≤ c := own_sl' HO.out
          have hMl : (M.length : Int) ≤ 24 := by have := HM24.out; omega
          obtain ⟨W3, rfl⟩ : ∃ W, W = wr := ⟨_, rfl⟩
          go_wp2
          go_loopw [7, 8] (fun vs vk wk => ∃ k : Nat, k ≤ M.length ∧ vk = .int .i64 (k : Int) ∧ vs = .bool (seen M X k) ∧ Below W3.heap.size W3 wk) (fun _ vk _ => M.length - (intOf vk).toNat)
          case atStart => exact ⟨0, by omega, rfl, rfl, Below.refl _ _⟩
          case round =>
            obtain ⟨k, hk, rfl, rfl, hbk⟩ := hrel
            obtain ⟨s, hs⟩ : ∃ s, s = seen M X k := ⟨_, rfl⟩
            rw [← hs]
            by_cases hkl : k < M.length
            · have hkl' : (k : Int) < (M.length : Int) := by omega
              have hsc := seen_succ (X := X) hkl
              rw [← hs] at hsc
              have HSC := Lib.hid hsc
              have hbk2 := hbk.drew
              have hbw2 := HB.out.trans (hbk2.mono HB.out.size)
              obtain ⟨a, rfl, hab, hu0, _⟩ := row_at (row_own HO.out) hkl
              have hu := (hbk2.cell (p := a.add (k * 2)) (by rw [S2.add_block]; exact hab)).trans hu0
              obtain ⟨u, hud⟩ : ∃ x, x = M[k].1 := ⟨_, rfl⟩
              rw [← hud] at hu hsc
              have ho2 := (HX.out _ hbw2).2.2
              have hX2 := (HX.out _ hbw2).1
              clear hs hu0 hbk HSC hoc
              cases s with
              | true =>
                have HSC := Lib.hid hsc
                clear hsc hud hu ho2 hX2
                go_wp2
                refine wp_region_held_drew (S := (fun _ => True)) (by kernel_rfl) trivial (fun hHeld => ?_)
                refine wpAnyH_take (i := 0) (oi := ⟨_, _, _, _, _, _⟩) (v := ?_) rfl (by kernel_rfl) (by kernel_rfl) (by kernel_rfl) (fun _ _ _ h => h) (Or.inl ⟨by rfl, ?_⟩) (by assumption) ?_
                rotate_left
                · intro wz hSw
                  try dsimp only at hSw
                  go_simp
                  try with_reducible rfl
                try simp only [Act.put, List.setIfInBounds_toArray, List.set_cons_zero, List.set_cons_succ]
                refine wpAnyH_take (i := 1) (oi := ⟨_, _, _, _, _, _⟩) (v := ?_) rfl (by kernel_rfl) (by kernel_rfl) (by kernel_rfl) (fun _ _ _ h => h) (Or.inl ⟨by rfl, ?_⟩) (by assumption) ?_
                rotate_left
                · intro wz hSw
                  try dsimp only at hSw
                  go_simp
                  try with_reducible rfl
                try simp only [Act.put, List.setIfInBounds_toArray, List.set_cons_zero, List.set_cons_succ]
                refine wpAnyH_take (i := 2) (oi := ⟨_, _, _, _, _, _⟩) (v := undef) rfl (by kernel_rfl) (by kernel_rfl) (by kernel_rfl) (fun _ _ _ h => h) (Or.inr ⟨by rfl, rfl⟩) (by assumption) ?_
                try simp only [Act.put, List.setIfInBounds_toArray, List.set_cons_zero, List.set_cons_succ]
                refine wpAnyH_take (i := 3) (oi := ⟨_, _, _, _, _, _⟩) (v := undef) rfl (by kernel_rfl) (by kernel_rfl) (by kernel_rfl) (fun _ _ _ h => h) (Or.inr ⟨by rfl, rfl⟩) (by assumption) ?_
                try simp only [Act.put, List.setIfInBounds_toArray, List.set_cons_zero, List.set_cons_succ]
                refine wpAnyH_take (i := 4) (oi := ⟨_, _, _, _, _, _⟩) (v := undef) rfl (by kernel_rfl) (by kernel_rfl) (by kernel_rfl) (fun _ _ _ h => h) (Or.inr ⟨by rfl, rfl⟩) (by assumption) ?_
                try simp only [Act.put, List.setIfInBounds_toArray, List.set_cons_zero, List.set_cons_succ]
                refine wpAnyH_take (i := 5) (oi := ⟨_, _, _, _, _, _⟩) (v := undef) rfl (by kernel_rfl) (by kernel_rfl) (by kernel_rfl) (fun _ _ _ h => h) (Or.inr ⟨by rfl, rfl⟩) (by assumption) ?_
                try simp only [Act.put, List.setIfInBounds_toArray, List.set_cons_zero, List.set_cons_succ]
                refine wpAnyH_take (i := 6) (oi := ⟨_, _, _, _, _, _⟩) (v := undef) rfl (by kernel_rfl) (by kernel_rfl) (by kernel_rfl) (fun _ _ _ h => h) (Or.inr ⟨by rfl, rfl⟩) (by assumption) ?_
                try simp only [Act.put, List.setIfInBounds_toArray, List.set_cons_zero, List.set_cons_succ]
                refine wpAnyH_take (i := 7) (oi := ⟨_, _, _, _, _, _⟩) (v := undef) rfl (by kernel_rfl) (by kernel_rfl) (by kernel_rfl) (fun _ _ _ h => h) (Or.inr ⟨by rfl, rfl⟩) (by assumption) ?_
                try simp only [Act.put, List.setIfInBounds_toArray, List.set_cons_zero, List.set_cons_succ]
                refine wpAnyH_take (i := 8) (oi := ⟨_, _, _, _, _, _⟩) (v := undef) rfl (by kernel_rfl) (by kernel_rfl) (by kernel_rfl) (fun _ _ _ h => h) (Or.inr ⟨by rfl, rfl⟩) (by assumption) ?_
                try simp only [Act.put, List.setIfInBounds_toArray, List.set_cons_zero, List.set_cons_succ]
                refine wpAnyH_take (i := 9) (oi := ⟨_, _, _, _, _, _⟩) (v := undef) rfl (by kernel_rfl) (by kernel_rfl) (by kernel_rfl) (fun _ _ _ h => h) (Or.inr ⟨by rfl, rfl⟩) (by assumption) ?_
                try simp only [Act.put, List.setIfInBounds_toArray, List.set_cons_zero, List.set_cons_succ]
                refine wpAnyH_take (i := 10) (oi := ⟨_, _, _, _, _, _⟩) (v := undef) rfl (by kernel_rfl) (by kernel_rfl) (by kernel_rfl) (fun _ _ _ h => h) (Or.inr ⟨by rfl, rfl⟩) (by assumption) ?_
                try simp only [Act.put, List.setIfInBounds_toArray, List.set_cons_zero, List.set_cons_succ]
                refine wpAnyH_take (i := 11) (oi := ⟨_, _, _, _, _, _⟩) (v := undef) rfl (by kernel_rfl) (by kernel_rfl) (by kernel_rfl) (fun _ _ _ h => h) (Or.inr ⟨by rfl, rfl⟩) (by assumption) ?_
                try simp only [Act.put, List.setIfInBounds_toArray, List.set_cons_zero, List.set_cons_succ]
                refine wpAnyH_take (i := 12) (oi := ⟨_, _, _, _, _, _⟩) (v := undef) rfl (by kernel_rfl) (by kernel_rfl) (by kernel_rfl) (fun _ _ _ h => h) (Or.inr ⟨by rfl, rfl⟩) (by assumption) ?_
                try simp only [Act.put, List.setIfInBounds_toArray, List.set_cons_zero, List.set_cons_succ]
                refine wpAnyH_take (i := 13) (oi := ⟨_, _, _, _, _, _⟩) (v := undef) rfl (by kernel_rfl) (by kernel_rfl) (by kernel_rfl) (fun _ _ _ h => h) (Or.inr ⟨by rfl, rfl⟩) (by assumption) ?_
                try simp only [Act.put, List.setIfInBounds_toArray, List.set_cons_zero, List.set_cons_succ]
                refine wpAnyH_take (i := 14) (oi := ⟨_, _, _, _, _, _⟩) (v := undef) rfl (by kernel_rfl) (by kernel_rfl) (by kernel_rfl) (fun _ _ _ h => h) (Or.inr ⟨by rfl, rfl⟩) (by assumption) ?_
                try simp only [Act.put, List.setIfInBounds_toArray, List.set_cons_zero, List.set_cons_succ]
                refine wpAnyH_take (i := 15) (oi := ⟨_, _, _, _, _, _⟩) (v := undef) rfl (by kernel_rfl) (by kernel_rfl) (by kernel_rfl) (fun _ _ _ h => h) (Or.inr ⟨by rfl, rfl⟩) (by assumption) ?_
                try simp only [Act.put, List.setIfInBounds_toArray, List.set_cons_zero, List.set_cons_succ]
                refine wpAnyH_take (i := 16) (oi := ⟨_, _, _, _, _, _⟩) (v := ?_) rfl (by kernel_rfl) (by kernel_rfl) (by kernel_rfl) (fun _ _ _ h => h) (Or.inl ⟨by rfl, ?_⟩) (by assumption) ?_
                rotate_left
                · intro wz hSw
                  try dsimp only at hSw
                  go_simp
                  try with_reducible rfl
                try simp only [Act.put, List.setIfInBounds_toArray, List.set_cons_zero, List.set_cons_succ]
                refine wpAnyH_take (i := 17) (oi := ⟨_, _, _, _, _, _⟩) (v := ?_) rfl (by kernel_rfl) (by kernel_rfl) (by kernel_rfl) (fun _ _ _ h => h) (Or.inl ⟨by rfl, ?_⟩) (by assumption) ?_
                rotate_left
                · intro wz hSw
                  try dsimp only at hSw
                  go_simp
                  try with_reducible rfl
                try simp only [Act.put, List.setIfInBounds_toArray, List.set_cons_zero, List.set_cons_succ]
                refine wpAnyH_done (by kernel_rfl) ?_ _
                clear hHeld
                go_wp2
                go_roundw
                case rel => exact ⟨k + 1, hkl, by go_num, by rw [HSC.out]; rfl, hbk2⟩
                case measure => simp [intOf]; omega
              | false =>
                have HSC := Lib.hid hsc
                clear hsc hud
                go_wp2
                refine wp_region_held_drew (S := (fun w' => w'.cell? (a.add (k * 2)) = some (.int .i64 u) ∧ w'.cell? (b2.add i) = some (.int .i64 (o : Int)) ∧ w'.cell? (a3.add (o * 2)) = some (.int .i64 X))) (by kernel_rfl) ⟨hu, ho2, hX2⟩ (fun hHeld => ?_)
                refine wpAnyH_take (i := 0) (oi := ⟨_, _, _, _, _, _⟩) (v := ?_) rfl (by kernel_rfl) (by kernel_rfl) (by kernel_rfl) (fun _ _ _ h => h) (Or.inl ⟨by rfl, ?_⟩) (by assumption) ?_
                rotate_left
                · intro wz hSw
                  try dsimp only at hSw
                  go_simp
                  try with_reducible rfl
                try simp only [Act.put, List.setIfInBounds_toArray, List.set_cons_zero, List.set_cons_succ]
                refine wpAnyH_take (i := 1) (oi := ⟨_, _, _, _, _, _⟩) (v := ?_) rfl (by kernel_rfl) (by kernel_rfl) (by kernel_rfl) (fun _ _ _ h => h) (Or.inl ⟨by rfl, ?_⟩) (by assumption) ?_
                rotate_left
                · intro wz hSw
                  try dsimp only at hSw
                  go_simp
                  try with_reducible rfl
                try simp only [Act.put, List.setIfInBounds_toArray, List.set_cons_zero, List.set_cons_succ]
                refine wpAnyH_take (i := 2) (oi := ⟨_, _, _, _, _, _⟩) (v := ?_) rfl (by kernel_rfl) (by kernel_rfl) (by kernel_rfl) (fun _ _ _ h => h) (Or.inl ⟨by rfl, ?_⟩) (by assumption) ?_
                rotate_left
                · intro wz hSw
                  try dsimp only at hSw
                  go_simp
                  try with_reducible rfl
                try simp only [Act.put, List.setIfInBounds_toArray, List.set_cons_zero, List.set_cons_succ]
                refine wpAnyH_take (i := 3) (oi := ⟨_, _, _, _, _, _⟩) (v := ?_) rfl (by kernel_rfl) (by kernel_rfl) (by kernel_rfl) (fun _ _ _ h => h) (Or.inl ⟨by rfl, ?_⟩) (by assumption) ?_
                rotate_left
                · intro wz hSw
                  try dsimp only at hSw
                  go_simp
                  try with_reducible rfl
                try simp only [Act.put, List.setIfInBounds_toArray, List.set_cons_zero, List.set_cons_succ]
                refine wpAnyH_take (i := 4) (oi := ⟨_, _, _, _, _, _⟩) (v := ?_) rfl (by kernel_rfl) (by kernel_rfl) (by kernel_rfl) (fun _ _ _ h => h) (Or.inl ⟨by rfl, ?_⟩) (by assumption) ?_
                rotate_left
                · intro wz hSw
                  try dsimp only at hSw
                  go_simp
                  try with_reducible rfl
                try simp only [Act.put, List.setIfInBounds_toArray, List.set_cons_zero, List.set_cons_succ]
                refine wpAnyH_take (i := 5) (oi := ⟨_, _, _, _, _, _⟩) (v := ?_) rfl (by kernel_rfl) (by kernel_rfl) (by kernel_rfl) (fun _ _ _ h => h) (Or.inl ⟨by rfl, ?_⟩) (by assumption) ?_
                rotate_left
                · intro wz hSw
                  try dsimp only at hSw
                  go_simp
                  try with_reducible rfl
                try simp only [Act.put, List.setIfInBounds_toArray, List.set_cons_zero, List.set_cons_succ]
                refine wpAnyH_take (i := 6) (oi := ⟨_, _, _, _, _, _⟩) (v := ?_) rfl (by kernel_rfl) (by kernel_rfl) (by kernel_rfl) (fun _ _ _ h => h) (Or.inl ⟨by rfl, ?_⟩) (by assumption) ?_
                rotate_left
                · intro wz hSw
                  try dsimp only at hSw
                  go_simp
                  try with_reducible rfl
                try simp only [Act.put, List.setIfInBounds_toArray, List.set_cons_zero, List.set_cons_succ]
                refine wpAnyH_take (i := 7) (oi := ⟨_, _, _, _, _, _⟩) (v := ?_) rfl (by kernel_rfl) (by kernel_rfl) (by kernel_rfl) (fun _ _ _ h => h) (Or.inl ⟨by rfl, ?_⟩) (by assumption) ?_
                rotate_left
                · intro wz hSw
                  try dsimp only at hSw
                  go_simp
                  try with_reducible rfl
                try simp only [Act.put, List.setIfInBounds_toArray, List.set_cons_zero, List.set_cons_succ]
                refine wpAnyH_take (i := 8) (oi := ⟨_, _, _, _, _, _⟩) (v := ?_) rfl (by kernel_rfl) (by kernel_rfl) (by kernel_rfl) (fun _ _ _ h => h) (Or.inl ⟨by rfl, ?_⟩) (by assumption) ?_
                rotate_left
                · intro wz hSw
                  try dsimp only at hSw
                  go_simp
                  try with_reducible rfl
                try simp only [Act.put, List.setIfInBounds_toArray, List.set_cons_zero, List.set_cons_succ]
                refine wpAnyH_take (i := 9) (oi := ⟨_, _, _, _, _, _⟩) (v := ?_) rfl (by kernel_rfl) (by kernel_rfl) (by kernel_rfl) (fun _ _ _ h => h) (Or.inl ⟨by rfl, ?_⟩) (by assumption) ?_
                rotate_left
                · intro wz hSw
                  try dsimp only at hSw
                  go_simp
                  try with_reducible rfl
                try simp only [Act.put, List.setIfInBounds_toArray, List.set_cons_zero, List.set_cons_succ]
                refine wpAnyH_take (i := 10) (oi := ⟨_, _, _, _, _, _⟩) (v := ?_) rfl (by kernel_rfl) (by kernel_rfl) (by kernel_rfl) (fun _ _ _ h => h) (Or.inl ⟨by rfl, ?_⟩) (by assumption) ?_
                rotate_left
                · intro wz hSw
                  try dsimp only at hSw
                  go_simp
                  try with_reducible rfl
                try simp only [Act.put, List.setIfInBounds_toArray, List.set_cons_zero, List.set_cons_succ]
                refine wpAnyH_take (i := 11) (oi := ⟨_, _, _, _, _, _⟩) (v := ?_) rfl (by kernel_rfl) (by kernel_rfl) (by kernel_rfl) (fun _ _ _ h => h) (Or.inl ⟨by rfl, ?_⟩) (by assumption) ?_
                rotate_left
                · intro wz hSw
                  try dsimp only at hSw
                  go_simp
                  try with_reducible rfl
                try simp only [Act.put, List.setIfInBounds_toArray, List.set_cons_zero, List.set_cons_succ]
                refine wpAnyH_take (i := 12) (oi := ⟨_, _, _, _, _, _⟩) (v := ?_) rfl (by kernel_rfl) (by kernel_rfl) (by kernel_rfl) (fun _ _ _ h => h) (Or.inl ⟨by rfl, ?_⟩) (by assumption) ?_
                rotate_left
                · intro wz hSw
                  try dsimp only at hSw
                  go_simp
                  try with_reducible rfl
                try simp only [Act.put, List.setIfInBounds_toArray, List.set_cons_zero, List.set_cons_succ]
                refine wpAnyH_take (i := 13) (oi := ⟨_, _, _, _, _, _⟩) (v := ?_) rfl (by kernel_rfl) (by kernel_rfl) (by kernel_rfl) (fun _ _ _ h => h) (Or.inl ⟨by rfl, ?_⟩) (by assumption) ?_
                rotate_left
                · intro wz hSw
                  try dsimp only at hSw
                  go_simp
                  try with_reducible rfl
                try simp only [Act.put, List.setIfInBounds_toArray, List.set_cons_zero, List.set_cons_succ]
                refine wpAnyH_take (i := 14) (oi := ⟨_, _, _, _, _, _⟩) (v := ?_) rfl (by kernel_rfl) (by kernel_rfl) (by kernel_rfl) (fun _ _ _ h => h) (Or.inl ⟨by rfl, ?_⟩) (by assumption) ?_
                rotate_left
                · intro wz hSw
                  try dsimp only at hSw
                  go_simp
                  try with_reducible rfl
                try simp only [Act.put, List.setIfInBounds_toArray, List.set_cons_zero, List.set_cons_succ]
                refine wpAnyH_take (i := 15) (oi := ⟨_, _, _, _, _, _⟩) (v := ?_) rfl (by kernel_rfl) (by kernel_rfl) (by kernel_rfl) (fun _ _ _ h => h) (Or.inl ⟨by rfl, ?_⟩) (by assumption) ?_
                rotate_left
                · intro wz hSw
                  try dsimp only at hSw
                  go_simp
                  try with_reducible rfl
                try simp only [Act.put, List.setIfInBounds_toArray, List.set_cons_zero, List.set_cons_succ]
                refine wpAnyH_take (i := 16) (oi := ⟨_, _, _, _, _, _⟩) (v := ?_) rfl (by kernel_rfl) (by kernel_rfl) (by kernel_rfl) (fun _ _ _ h => h) (Or.inl ⟨by rfl, ?_⟩) (by assumption) ?_
                rotate_left
                · intro wz hSw
                  try dsimp only at hSw
                  go_simp
                  try with_reducible rfl
                try simp only [Act.put, List.setIfInBounds_toArray, List.set_cons_zero, List.set_cons_succ]
                refine wpAnyH_take (i := 17) (oi := ⟨_, _, _, _, _, _⟩) (v := ?_) rfl (by kernel_rfl) (by kernel_rfl) (by kernel_rfl) (fun _ _ _ h => h) (Or.inl ⟨by rfl, ?_⟩) (by assumption) ?_
                rotate_left
                · intro wz hSw
                  try dsimp only at hSw
                  go_simp
                  try with_reducible rfl
                try simp only [Act.put, List.setIfInBounds_toArray, List.set_cons_zero, List.set_cons_succ]
                refine wpAnyH_done (by kernel_rfl) ?_ _
                clear hHeld
                go_wp2
                go_roundw
                case rel => exact ⟨k + 1, hkl, by go_num, by rw [HSC.out]; rfl, hbk2⟩
                case measure => simp [intOf]; omega
            · obtain rfl : k = M.length := by omega
              have HBK := Lib.hid hbk
              have HS := Lib.hid hs
              have hbw := HB.out.trans (hbk.mono HB.out.size)
              have hxr := (HX.out _ hbw).1
              have hyr := (HX.out _ hbw).2.1
              have hor := (HX.out _ hbw).2.2
              clear hbk hs hoc
              cases s with
              | true =>
                go_wp2
                go_roundw
                case rel => exact ⟨i + 1, M, hi24, by have := HM24.out; omega, by go_num, HCH.out, own_below HO.out HBK.out, hbw⟩
                case measure => simp [intOf]; omega
              | false =>
                have hown3 := own_below HO.out HBK.out
                have hsz3 := hbw.size
                have HCA := Lib.hid (HCH.out.add HME.out (seen_all HS.out.symm))
                have hMi3 := HM24.out
                go_wp2_with (at_builtin; refine wpList_append_own _ rfl _ _ 22 rfl w.heap.size 38 i0 (.agg #[.int .i64 0, .int .i64 0]) 2 16 Tryd.underlying22 hi0 hz0 hz1 hz2 rfl (by decide) _ _ _ rfl (hown3.alloc _) ⟨wr.heap.size, 0, none⟩ 1 1 [.int .i64 X, .int .i64 Y] rfl rfl two_cell (fun u hu => by simp at hu; rcases hu with rfl | rfl <;> rfl) (by unfold maxLen; omega) (by omega) (by simp; omega) ?_)
                intro v' w3 ho3 hg3 _
                have HB3 := Lib.hid ((hbw.alloc hsz3 _).grown hg3 (by simp; omega) (own_ge hown3))
                have HO3 : Hid (w3.ownsRow w.heap.size 38 2 v' (M ++ [(X, Y)]).length (Sc (M ++ [(X, Y)]))) := Lib.hid (by rw [List.length_append, Sc_append]; exact ho3)
                clear ho3 hg3 hown3 hbw hxr hyr hor hsz3
                go_wp2
                go_roundw
                case rel => exact ⟨i + 1, M ++ [(X, Y)], hi24, by rw [List.length_append]; simp; omega, by go_num, HCA.out, HO3.out, HB3.out⟩
                case measure => simp [intOf]; omega
        · have hlo' : (sh.length : Int) ≤ (o : Int) := by omega
          go_wp2
          go_roundw
          case rel => exact ⟨i + 1, M, hi24, by have := HM24.out; omega, by go_num, HCH.out, HO.out, HB.out⟩
          case measure => simp [intOf]; omega
      · have hi24' : (24 : Int) ≤ (i : Int) := by omega
        go_wp2
        go_ret
        exact ⟨⟨M, _, rfl, by omega, hch, hown⟩, hbel⟩
    · have hio' : (order.length : Int) ≤ (i : Int) := by omega
      go_wp2
      go_ret
      exact ⟨⟨M, _, rfl, by omega, hch, hown⟩, hbel⟩
end Sh
end Go.Proofs.YtjpgadiobgbchaaDoor
