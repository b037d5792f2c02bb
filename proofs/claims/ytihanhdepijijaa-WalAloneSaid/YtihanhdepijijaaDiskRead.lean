/-
  Layer 9 (disk): Read, New.
-/
import Derived.Test.YtihanhdepijijaaDiskTurn
namespace Go.Proofs.Ytihanhdepijijaa.S9
open Go.RowKit
namespace Dk
set_option maxHeartbeats 1000000 in
set_option maxRecDepth 100000 in
theorem Read_any (X : Nat → Prop) (p : Nat) (D : MD) (f : Int) (w : World) (h : Dk X w p D) :
    Calls Try.prog 24 #[ptr p, .int .i64 f] w fun e w' => e = .returned (.tuple #[.string (S2.B (D.read f).1), .int .i64 (D.read f).2]) ∧ Dk X w' p D ∧ Fr X w w' := by
  have KC := Lib.hid (check1_any f h)
  have H := Lib.hid h
  clear h
  cases hd : D.down with
  | true =>
    have HC := Lib.hid (show D.chk1 f = 8 by simp [MD.chk1, hd])
    have R := Lib.hid (show D.read f = ([], 8) by unfold MD.read; rw [HC.out]; rfl)
    clear hd
    go_enter Try.func24, Try.ntmps24
    go_wp2_with fail
    refine KC.out.mono ?_
    rintro e w1 ⟨rfl, hq⟩
    have H1 := Lib.hid (show Dk X w1 p D by rw [← hq]; exact H.out.alloc _)
    have F1 := Lib.hid (show Fr X w w1 by rw [← hq]; exact (Fr.refl X w).alloc H.out.lt _)
    clear hq H KC
    rw [HC.out]
    go_wp2
    go_ret2
    exact ⟨by rw [R.out]; rfl, H1.out, F1.out⟩
  | false =>
    cases hf : isF f with
    | false =>
      have HC := Lib.hid (show D.chk1 f = 1 by simp [MD.chk1, hd, hf])
      have R := Lib.hid (show D.read f = ([], 1) by unfold MD.read; rw [HC.out]; rfl)
      clear hd hf
      go_enter Try.func24, Try.ntmps24
      go_wp2_with fail
      refine KC.out.mono ?_
      rintro e w1 ⟨rfl, hq⟩
      have H1 := Lib.hid (show Dk X w1 p D by rw [← hq]; exact H.out.alloc _)
      have F1 := Lib.hid (show Fr X w w1 by rw [← hq]; exact (Fr.refl X w).alloc H.out.lt _)
      clear hq H KC
      rw [HC.out]
      go_wp2
      go_ret2
      exact ⟨by rw [R.out]; rfl, H1.out, F1.out⟩
    | true =>
      obtain ⟨k, hk, rfl⟩ : ∃ k : Nat, k < 8 ∧ f = (k : Int) := ⟨f.toNat, isF_nat hf⟩
      have hkk : (k : Int) < 8 := by omega
      have HC := Lib.hid (show D.chk1 (k : Int) = 0 by simp [MD.chk1, hd, hf])
      have R := Lib.hid (show D.read (k : Int) = (D.text k, 0) by unfold MD.read; rw [HC.out]; rfl)
      have HK8 := Lib.hid hk
      clear hd hf hk
      go_enter Try.func24, Try.ntmps24
      go_wp2_with fail
      refine KC.out.mono ?_
      rintro e w1 ⟨rfl, hq⟩
      have H1 := Lib.hid (show Dk X w1 p D by rw [← hq]; exact H.out.alloc _)
      have F1 := Lib.hid (show Fr X w w1 by rw [← hq]; exact (Fr.refl X w).alloc H.out.lt _)
      clear hq H KC
      rw [HC.out]
      obtain ⟨_, vs, hv⟩ := H1.out
      have c1 := hv.c_v HK8.out
      have hc := (hv.own k HK8.out).conv
      obtain ⟨A, n, c, he, hn, hnc⟩ := (hv.own k HK8.out).sl
      clear hn hnc
      rw [he] at c1 hc
      generalize D.text k = txt at *
      clear hv he
      go_wp2
      go_ret2
      exact ⟨by rw [R.out]; rfl, H1.out, F1.out⟩

/-- A machine's block when it is new. -/
def zeros : Array Value := ((List.replicate 8 [Value.slice none 0 0, Value.int .i64 0]).flatten ++ [Value.bool false, Value.int .i64 0, Value.int .i64 0] ++ KV (fun _ => 0)).toArray
theorem zeros_cur : Cur zeros (fun _ => .slice none 0 0) MD.new := by
  refine ⟨rfl, fun i hi => ?_, fun i hi => ?_, rfl, rfl, rfl, fun i hi => ?_⟩
  all_goals (match i, hi with
    | 0, _ => rfl
    | 1, _ => rfl
    | 2, _ => rfl
    | 3, _ => rfl
    | 4, _ => rfl
    | 5, _ => rfl
    | 6, _ => rfl
    | 7, _ => rfl)
theorem new_dk (w : World) : Dk (fun k => k < w.heap.size) (w.alloc (.cells zeros 67)) w.heap.size MD.new := by
  refine ⟨MD.new_ok, fun _ => .slice none 0 0, ⟨⟨zeros, heap_alloc_new w _, zeros_cur⟩, fun i _ => By.nil _, fun i _ e => ?_, fun i _ g e => ?_, fun i _ j _ _ g e => ?_, ?_, fun k hk => ?_⟩⟩
  · cases e
  · cases e
  · cases e
  · simp
  · simp only [World.size_alloc] at hk ⊢
    omega
theorem New_any (w : World) : Calls Try.prog 8 #[] w fun e w' => e = .returned (ptr w.heap.size) ∧ Dk (fun k => k < w.heap.size) w' w.heap.size MD.new ∧ Below w.heap.size w w' := by
  have R := Lib.hid (show Dk (fun k => k < w.heap.size) (w.alloc (.cells zeros 67)) w.heap.size MD.new ∧ Below w.heap.size w (w.alloc (.cells zeros 67)) from ⟨new_dk w, (Below.refl _ _).alloc (Nat.le_refl _) _⟩)
  go_enter Try.func8, Try.ntmps8
  go_wp2
  go_ret
  exact ⟨rfl, R.out⟩
end Dk
end Go.Proofs.Ytihanhdepijijaa.S9
