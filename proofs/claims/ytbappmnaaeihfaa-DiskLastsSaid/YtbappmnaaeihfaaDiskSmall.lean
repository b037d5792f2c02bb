/-
  Layer 9 (disk): the laws' small example.
-/
import Derived.Test.YtbappmnaaeihfaaDiskLaw
import Derived.Deep.RegionHeld3
namespace Go.Proofs.Ytbappmnaaeihfaa
open Go.RowKit
namespace Dk
attribute [local go_sem] S2.B_size S2.B_list
/-- Crash with a literal of two numbers. -/
theorem crash_lit (X : Nat → Prop) (p : Nat) (D : MD) (a b : Int) (ha : isI a) (hb : isI b) (w : World) (h : Dk X w p D) :
    Calls Try.prog 17 #[ptr p, .slice (some ⟨w.heap.size, 0, none⟩) 2 2] (w.alloc (.cells #[.int .i64 a, .int .i64 b] 3)) fun e w' => e = .returned (.tuple #[]) ∧ Dk X w' p (D.Crash [a, b]) ∧ Fr X w w' := by
  have hh : (w.alloc (.cells #[Value.int .i64 a, .int .i64 b] 3)).heap[w.heap.size]? = some (.cells #[Value.int .i64 a, .int .i64 b] 3 (0, 0)) := heap_alloc_new w _
  have hb1 : Below w.heap.size w (w.alloc (.cells #[Value.int .i64 a, .int .i64 b] 3)) := (Below.refl _ _).alloc (Nat.le_refl _) _
  have h1 : Dk (fun k => X k ∨ k = w.heap.size) (w.alloc (.cells #[Value.int .i64 a, .int .i64 b] 3)) p D := h.more hb1 (fun k hk => by
    rcases hk with hk | hk
    · exact .inl hk
    · exact .inr (by simp only [World.size_alloc]; omega))
  refine (Crash_any _ p D [a, b] (some ⟨w.heap.size, 0, none⟩) 2 2 rfl (fun x hx => ?_) _ (.inr ⟨_, rfl, .inr rfl, fun j u hu => ?_⟩) h1).mono ?_
  · simp only [List.mem_cons, List.not_mem_nil, or_false] at hx
    rcases hx with rfl | rfl
    · exact ha
    · exact hb
  · rw [Addr.add_lit, Nat.zero_add, cell_of_row _ _ _ _ _ _ hh, List.getElem?_toArray]
    exact hu
  · rintro e w1 ⟨rfl, h2, f2⟩
    exact ⟨rfl, h2.weaken (fun _ hk => .inl hk), (Fr.of_below hb1 h.lt).trans (f2.weaken (fun _ hk => .inl hk))⟩
def sm1 : MD := (MD.new.app 1 [104, 101, 108, 108, 111]).2
theorem sa0 : (MD.new.app 1 [104, 101, 108, 108, 111]).1 = 0 := by decide +kernel
def sm2 : MD := (sm1.flush 1).2
theorem sa1 : (sm1.flush 1).1 = 0 := by decide +kernel
def sm3 : MD := (sm2.app 1 [121, 111, 117]).2
theorem sa2 : (sm2.app 1 [121, 111, 117]).1 = 0 := by decide +kernel
def sm4 : MD := sm3.Crash [9, 1]
theorem sa4 : sm4.read 1 = ([], 8) := by decide +kernel
theorem sa5 : sm4.down = true := by decide +kernel
def sm5 : MD := sm4.start
theorem sa7 : sm5.read 1 = ([104, 101, 108, 108, 111, 121], 0) := by decide +kernel
def sm6 : MD := sm5.lose 1
def sm7 : MD := (sm6.flush 1).2
theorem sa9 : (sm6.flush 1).1 = 18 := by decide +kernel
def sm8 : MD := (sm7.app 2 [120]).2
theorem sa10 : (sm7.app 2 [120]).1 = 0 := by decide +kernel
def sm9 : MD := (sm8.turn 1 2).2
theorem sa11 : (sm8.turn 1 2).1 = 9 := by decide +kernel
def sm10 : MD := (sm9.flush 2).2
theorem sa12 : (sm9.flush 2).1 = 0 := by decide +kernel
def sm11 : MD := (sm10.turn 1 2).2
theorem sa13 : (sm10.turn 1 2).1 = 0 := by decide +kernel
theorem sa14 : sm11.read 1 = ([120], 0) := by decide +kernel
theorem sa15 : sm11.size 2 = 0 := by decide +kernel
def sm12 : MD := (sm11.app 8 []).2
theorem sa16 : (sm11.app 8 []).1 = 1 := by decide +kernel
def sm13 : MD := (sm12.cut 1 2).2
theorem sa17 : (sm12.cut 1 2).1 = 1 := by decide +kernel
set_option maxHeartbeats 4000000 in
set_option maxRecDepth 100000 in
theorem small_any (w : World) : Calls Try.prog 8 #[] w fun e w' => e = .returned (.bool true) ∧ Below w.heap.size w w' := by
  go_enter Try.func8, Try.ntmps8
  go_wp2_with fail
  refine (New_any w).mono ?_
  rintro e w1 ⟨rfl, h, hb⟩
  obtain ⟨X, hX⟩ : ∃ X, X = fun k => k < w.heap.size := ⟨_, rfl⟩
  rw [← hX] at h
  have HX := Lib.hid hX
  have FR := Lib.hid (show Fr X w w1 from Fr.of_below hb (fun k hk => by rw [hX] at hk; exact hk))
  obtain ⟨p, hp⟩ : ∃ p, p = w.heap.size := ⟨_, rfl⟩
  rw [← hp] at h ⊢
  have H := Lib.hid h
  clear h hX hb hp
  go_wp2_with fail
  refine (Append_any X p MD.new 1 [104, 101, 108, 108, 111] (by decide) _ H.out).mono ?_
  rintro e w2 ⟨rfl, h, f⟩
  replace H := Lib.hid (show Dk X w2 p sm1 from h)
  replace FR := Lib.hid (FR.out.trans f)
  clear h f
  rw [sa0]
  go_wp2_with fail
  refine (Flush_any X p sm1 1 _ H.out).mono ?_
  rintro e w3 ⟨rfl, h, f⟩
  replace H := Lib.hid (show Dk X w3 p sm2 from h)
  replace FR := Lib.hid (FR.out.trans f)
  clear h f
  rw [sa1]
  go_wp2_with fail
  refine (Append_any X p sm2 1 [121, 111, 117] (by decide) _ H.out).mono ?_
  rintro e w4 ⟨rfl, h, f⟩
  replace H := Lib.hid (show Dk X w4 p sm3 from h)
  replace FR := Lib.hid (FR.out.trans f)
  clear h f
  rw [sa2]
  go_wp2_with fail
  refine (crash_lit X p sm3 9 1 (by unfold isI; omega) (by unfold isI; omega) _ H.out).mono ?_
  rintro e w5 ⟨rfl, h, f⟩
  replace H := Lib.hid (show Dk X w5 p sm4 from h)
  replace FR := Lib.hid (FR.out.trans f)
  clear h f
  go_wp2_with fail
  refine (Read_any X p sm4 1 _ H.out).mono ?_
  rintro e w6 ⟨rfl, h, f⟩
  replace H := Lib.hid h
  replace FR := Lib.hid (FR.out.trans f)
  clear h f
  rw [sa4]
  go_wp2_with fail
  refine (down_any X p sm4 _ H.out).mono ?_
  rintro e w7 ⟨rfl, hq⟩
  obtain rfl := hq
  rw [sa5]
  go_wp2_with fail
  refine (start_any X p sm4 _ H.out).mono ?_
  rintro e w8 ⟨rfl, h, f⟩
  replace H := Lib.hid (show Dk X w8 p sm5 from h)
  replace FR := Lib.hid (FR.out.trans f)
  clear h f
  go_wp2_with fail
  refine (Read_any X p sm5 1 _ H.out).mono ?_
  rintro e w9 ⟨rfl, h, f⟩
  replace H := Lib.hid h
  replace FR := Lib.hid (FR.out.trans f)
  clear h f
  rw [sa7]
  go_wp2_with fail
  refine (lose_any X p sm5 1 (by unfold isI; omega) _ H.out).mono ?_
  rintro e w10 ⟨rfl, h, f⟩
  replace H := Lib.hid (show Dk X w10 p sm6 from h)
  replace FR := Lib.hid (FR.out.trans f)
  clear h f
  go_wp2_with fail
  refine (Flush_any X p sm6 1 _ H.out).mono ?_
  rintro e w11 ⟨rfl, h, f⟩
  replace H := Lib.hid (show Dk X w11 p sm7 from h)
  replace FR := Lib.hid (FR.out.trans f)
  clear h f
  rw [sa9]
  go_wp2_with fail
  refine (Append_any X p sm7 2 [120] (by decide) _ H.out).mono ?_
  rintro e w12 ⟨rfl, h, f⟩
  replace H := Lib.hid (show Dk X w12 p sm8 from h)
  replace FR := Lib.hid (FR.out.trans f)
  clear h f
  rw [sa10]
  go_wp2_with fail
  refine (Turn_any X p sm8 1 2 _ H.out).mono ?_
  rintro e w13 ⟨rfl, h, f⟩
  replace H := Lib.hid (show Dk X w13 p sm9 from h)
  replace FR := Lib.hid (FR.out.trans f)
  clear h f
  rw [sa11]
  go_wp2_with fail
  refine (Flush_any X p sm9 2 _ H.out).mono ?_
  rintro e w14 ⟨rfl, h, f⟩
  replace H := Lib.hid (show Dk X w14 p sm10 from h)
  replace FR := Lib.hid (FR.out.trans f)
  clear h f
  rw [sa12]
  go_wp2_with fail
  refine (Turn_any X p sm10 1 2 _ H.out).mono ?_
  rintro e w15 ⟨rfl, h, f⟩
  replace H := Lib.hid (show Dk X w15 p sm11 from h)
  replace FR := Lib.hid (FR.out.trans f)
  clear h f
  rw [sa13]
  go_wp2_with fail
  refine (Read_any X p sm11 1 _ H.out).mono ?_
  rintro e w16 ⟨rfl, h, f⟩
  replace H := Lib.hid h
  replace FR := Lib.hid (FR.out.trans f)
  clear h f
  rw [sa14]
  go_wp2_with fail
  refine (size_any X p sm11 2 _ H.out).mono ?_
  rintro e w17 ⟨rfl, hq⟩
  obtain rfl := hq
  rw [sa15]
  go_wp2_with fail
  refine (Append_any X p sm11 8 [] (by decide) _ H.out).mono ?_
  rintro e w18 ⟨rfl, h, f⟩
  replace H := Lib.hid (show Dk X w18 p sm12 from h)
  replace FR := Lib.hid (FR.out.trans f)
  clear h f
  rw [sa16]
  go_wp2_with fail
  refine (Cut_any X p sm12 1 2 _ H.out).mono ?_
  rintro e w19 ⟨rfl, h, f⟩
  replace H := Lib.hid (show Dk X w19 p sm13 from h)
  replace FR := Lib.hid (FR.out.trans f)
  clear h f
  rw [sa17]
  go_wp2
  go_ret
  exact ⟨rfl, FR.out.below (fun k hk => by rw [HX.out]; exact hk)⟩
end Dk
end Go.Proofs.Ytbappmnaaeihfaa
