/-
  Layer 10: the laws' small example.
-/
import Derived.Test.YtihanhdepijijaaWalLow
namespace Go.Proofs.Ytihanhdepijijaa
open Go.RowKit
namespace Wl
open S9.Dk (Dk Fr MD By isI)
attribute [local go_sem] S2.B_size S2.B_list
def sm0 : MD := (lopen c4 MD.new 2).2
theorem sa0 : (lopen c4 MD.new 2).1 = (some [], 0) := by decide +kernel
def sm1 : MD := (lapp c4 sm0 2 [] [97]).2.2
theorem sa1 : (lapp c4 sm0 2 [] [97]).1 = 0 ∧ (lapp c4 sm0 2 [] [97]).2.1 = [[97]] := by decide +kernel
def sm2 : MD := (sm1.flush 2).2
theorem sa2 : (sm1.flush 2).1 = 0 := by decide +kernel
def sm3 : MD := (lapp c4 sm2 2 [[97]] [98]).2.2
theorem sa3 : (lapp c4 sm2 2 [[97]] [98]).1 = 0 ∧ (lapp c4 sm2 2 [[97]] [98]).2.1 = [[97], [98]] := by decide +kernel
def sm4 : MD := sm3.Crash []
def sm5 : MD := (lapp c4 sm4 2 [[97], [98]] [99]).2.2
theorem sa5 : (lapp c4 sm4 2 [[97], [98]] [99]).1 = 8 ∧ (lapp c4 sm4 2 [[97], [98]] [99]).2.1 = [[97], [98]] := by decide +kernel
def sm6 : MD := sm5.start
def sm7 : MD := (lopen c4 sm6 2).2
theorem sa7 : (lopen c4 sm6 2).1 = (some [[97]], 0) := by decide +kernel
def sm8 : MD := (lrew c4 sm7 2 [[97]] [[120], []]).2.2
theorem sa8 : (lrew c4 sm7 2 [[97]] [[120], []]).1 = 0 ∧ (lrew c4 sm7 2 [[97]] [[120], []]).2.1 = [[120], []] := by decide +kernel
def sm9 : MD := (sm8.Crash []).start
def sm10 : MD := (lopen c4 sm9 2).2
theorem sa10 : (lopen c4 sm9 2).1 = (some [[120], []], 0) := by decide +kernel
set_option maxHeartbeats 4000000 in
set_option maxRecDepth 100000 in
theorem small_any (w : World) : Calls Try.prog 7 #[] w fun e w' => e = .returned (.bool true) ∧ Below w.heap.size w w' := by
  obtain ⟨X0, hX0⟩ : ∃ X0 : Nat → Prop, X0 = fun k => k < w.heap.size := ⟨_, rfl⟩
  have HX0 := Lib.hid (show ∀ k, k < w.heap.size → X0 k from fun k hk => by rw [hX0]; exact hk)
  have C := Lib.hid (show Ca X0 X0 w w by rw [hX0]; exact Ca.start w)
  clear hX0
  go_enter Try.func7, Try.ntmps7
  go_wp2_with fail
  refine (S9.Dk.New_any w).mono ?_
  rintro e w1 ⟨rfl, h, hb⟩
  have L := Lib.hid (show Dk X0 w1 w.heap.size MD.new from h.weaken fun k hk => C.out.lt k hk)
  replace C := Lib.hid (C.out.below hb)
  obtain ⟨p, hp⟩ : ∃ p, p = w.heap.size := ⟨_, rfl⟩
  rw [← hp] at L ⊢
  clear h hb hp
  go_wp2_with fail
  refine (Open_ok (f := 2) (L.out) (Prod.ext sa0 rfl)).mono ?_
  rintro e w2 ⟨x, rfl, h, f⟩
  replace L := Lib.hid (show Lg X0 w2 x p 2 [] sm0 from h)
  replace C := Lib.hid (C.out.next f)
  clear h f
  go_wp2_with fail
  refine (L.out.via (D' := sm0) (Q := fun e => e = .returned (.tuple #[.pointer none, .int .i64 1])) fun Y hd _ => (Open_any Y p sm0 7 _ hd).mono fun e w' h => ⟨h.1.1, h.1.2, h.2⟩).mono ?_
  rintro e w3 ⟨rfl, h, f⟩
  replace L := Lib.hid h
  replace C := Lib.hid (C.out.next f)
  clear h f
  go_wp2_with fail
  refine (Open_nil 2 _).mono ?_
  rintro e wz ⟨rfl, rfl⟩
  go_wp2_with fail
  refine (Len_any _ x p 2 _ _ _ L.out).mono ?_
  rintro e wz ⟨rfl, rfl⟩
  go_wp2_with fail
  refine (Append_any _ x p 2 [] sm0 [97] _ L.out (by decide) (by decide)).mono ?_
  rintro e w4 ⟨rfl, h, f⟩
  rw [sa1.2] at h
  replace L := Lib.hid (show Lg X0 w4 x p 2 [[97]] sm1 from h)
  replace C := Lib.hid (C.out.next f)
  clear h f
  rw [sa1.1]
  go_wp2_with fail
  refine (Flush_any _ x p 2 [[97]] sm1 _ L.out).mono ?_
  rintro e w5 ⟨rfl, h, f⟩
  replace L := Lib.hid (show Lg X0 w5 x p 2 [[97]] sm2 from h)
  replace C := Lib.hid (C.out.next f)
  clear h f
  rw [sa2]
  go_wp2_with fail
  refine (Append_any _ x p 2 [[97]] sm2 [98] _ L.out (by decide) (by decide)).mono ?_
  rintro e w6 ⟨rfl, h, f⟩
  rw [sa3.2] at h
  replace L := Lib.hid (show Lg X0 w6 x p 2 [[97], [98]] sm3 from h)
  replace C := Lib.hid (C.out.next f)
  clear h f
  rw [sa3.1]
  go_wp2_with fail
  refine (Len_any _ x p 2 _ _ _ L.out).mono ?_
  rintro e wz ⟨rfl, rfl⟩
  go_wp2_with fail
  refine (crash_none L.out).mono ?_
  rintro e w7 ⟨rfl, h, f⟩
  replace L := Lib.hid (show Lg X0 w7 x p 2 [[97], [98]] sm4 from h)
  replace C := Lib.hid (C.out.next f)
  clear h f
  go_wp2_with fail
  refine (Append_any _ x p 2 [[97], [98]] sm4 [99] _ L.out (by decide) (by decide)).mono ?_
  rintro e w8 ⟨rfl, h, f⟩
  rw [sa5.2] at h
  replace L := Lib.hid (show Lg X0 w8 x p 2 [[97], [98]] sm5 from h)
  replace C := Lib.hid (C.out.next f)
  clear h f
  rw [sa5.1]
  go_wp2_with fail
  refine (start_lg L.out).mono ?_
  rintro e w9 ⟨rfl, h, f⟩
  replace L := Lib.hid (show Lg X0 w9 x p 2 [[97], [98]] sm6 from h)
  replace C := Lib.hid (C.out.next f)
  clear h f
  replace L := Lib.hid L.out.drop
  go_wp2_with fail
  refine (Open_ok (f := 2) (L.out) (Prod.ext sa7 rfl)).mono ?_
  rintro e w10 ⟨x2, rfl, h, f⟩
  replace L := Lib.hid (show Lg X0 w10 x2 p 2 [[97]] sm7 from h)
  replace C := Lib.hid (C.out.next f)
  clear h f
  go_wp2_with fail
  refine (All_in L.out (by decide)).mono ?_
  rintro e w11 ⟨Aa, na, ca, rfl, hn, hc, hr, h, hb⟩
  have hC := C.out.let_in hb
  obtain ⟨X1, hX⟩ : ∃ X, X = upTo X0 w10.heap.size w11.heap.size := ⟨_, rfl⟩
  rw [← hX] at hC hr h
  have hsub : ∀ k, X0 k → X1 k := fun k hk => by rw [hX]; exact .inl hk
  replace C := Lib.hid hC
  have Ra := Lib.hid hr
  have Na := Lib.hid hn
  have Ka := Lib.hid hc
  replace L := Lib.hid (show Lg X1 w11 x2 p 2 [[97]] sm7 from h)
  clear hr h hb hn hc hC hX hsub
  go_wp2_with fail
  have hb := alloc_below w11 (.cells (S2.Ss [[120], []]).toArray 9)
  have hr := lit_in (X := X1) w11 [[120], []]
  have h := L.out.let_in hb
  have hC := C.out.let_in hb
  obtain ⟨X2, hX⟩ : ∃ X, X = upTo X1 w11.heap.size (w11.alloc (.cells (S2.Ss [[120], []]).toArray 9)).heap.size := ⟨_, rfl⟩
  rw [← hX] at hC hr h
  have hsub : ∀ k, X1 k → X2 k := fun k hk => by rw [hX]; exact .inl hk
  replace Ra := Lib.hid ((Ra.out.fr (Fr.of_below hb C.out.lt)).mono hsub)
  replace C := Lib.hid hC
  refine (Rewrite_any _ x2 p 2 [[97]] sm7 _ 2 2 [[120], []] _ h (by decide) hr rfl (by decide) (by decide) (by decide)).mono ?_
  rintro e w12 ⟨rfl, h, f⟩
  rw [sa8.2] at h
  replace L := Lib.hid (show Lg X2 w12 x2 p 2 [[120], []] sm8 from h)
  replace C := Lib.hid (C.out.next f)
  replace Ra := Lib.hid (Ra.out.fr f)
  clear h f hb hr hC hX hsub
  rw [sa8.1]
  go_wp2_with fail
  refine (crash_none L.out).mono ?_
  rintro e w13 ⟨rfl, h, f⟩
  replace L := Lib.hid (show Lg X2 w13 x2 p 2 [[120], []] (sm8.Crash []) from h)
  replace C := Lib.hid (C.out.next f)
  replace Ra := Lib.hid (Ra.out.fr f)
  clear h f
  go_wp2_with fail
  refine (start_lg L.out).mono ?_
  rintro e w14 ⟨rfl, h, f⟩
  replace L := Lib.hid (show Lg X2 w14 x2 p 2 [[120], []] sm9 from h)
  replace C := Lib.hid (C.out.next f)
  replace Ra := Lib.hid (Ra.out.fr f)
  clear h f
  replace L := Lib.hid L.out.drop
  go_wp2_with fail
  refine (Open_ok (f := 2) (L.out) (Prod.ext sa10 rfl)).mono ?_
  rintro e w15 ⟨x3, rfl, h, f⟩
  replace L := Lib.hid (show Lg X2 w15 x3 p 2 [[120], []] sm10 from h)
  replace C := Lib.hid (C.out.next f)
  replace Ra := Lib.hid (Ra.out.fr f)
  clear h f
  go_wp2_with fail
  have hb := alloc_below w15 (.cells (S2.Ss [[97]]).toArray 9)
  have fb := Fr.of_below hb C.out.lt
  replace C := Lib.hid (C.out.next fb)
  replace Ra := Lib.hid (Ra.out.fr fb)
  replace L := Lib.hid (L.out.step hb)
  clear fb
  refine (same_any Aa (some ⟨w15.heap.size, 0, none⟩) [[97]] [[97]] ca 1 na 1 (w15.alloc (.cells (S2.Ss [[97]]).toArray 9)) Na.out rfl (Ra.out.row C.out.lt) (row_lit w15 [[97]]) (by decide) (by decide)).mono ?_
  rintro e w16 ⟨rfl, h⟩
  have fb := Fr.of_below h C.out.lt
  replace C := Lib.hid (C.out.next fb)
  replace Ra := Lib.hid (Ra.out.fr fb)
  replace L := Lib.hid (L.out.step h)
  clear fb
  clear hb h
  rw [show same [[97]] [[97]] = true by decide +kernel]
  go_wp2_with fail
  refine (All_in L.out (by decide)).mono ?_
  rintro e w17 ⟨Ab, nb, cb, rfl, hn, hc, hr, h, hb⟩
  have hC := C.out.let_in hb
  obtain ⟨X3, hX⟩ : ∃ X, X = upTo X2 w16.heap.size w17.heap.size := ⟨_, rfl⟩
  rw [← hX] at hC hr h
  have hsub : ∀ k, X2 k → X3 k := fun k hk => by rw [hX]; exact .inl hk
  replace Ra := Lib.hid ((Ra.out.fr (Fr.of_below hb C.out.lt)).mono hsub)
  replace C := Lib.hid hC
  have Rb := Lib.hid hr
  have Nb := Lib.hid hn
  have Kb := Lib.hid hc
  replace L := Lib.hid (show Lg X3 w17 x3 p 2 [[120], []] sm10 from h)
  clear hr h hb hn hc hC hX hsub
  go_wp2_with fail
  have hb := alloc_below w17 (.cells (S2.Ss [[120], []]).toArray 9)
  have fb := Fr.of_below hb C.out.lt
  replace C := Lib.hid (C.out.next fb)
  replace Ra := Lib.hid (Ra.out.fr fb)
  replace Rb := Lib.hid (Rb.out.fr fb)
  replace L := Lib.hid (L.out.step hb)
  clear fb
  refine (same_any Ab (some ⟨w17.heap.size, 0, none⟩) [[120], []] [[120], []] cb 2 nb 2 (w17.alloc (.cells (S2.Ss [[120], []]).toArray 9)) Nb.out rfl (Rb.out.row C.out.lt) (row_lit w17 [[120], []]) (by decide) (by decide)).mono ?_
  rintro e w18 ⟨rfl, h⟩
  have fb := Fr.of_below h C.out.lt
  replace C := Lib.hid (C.out.next fb)
  replace Ra := Lib.hid (Ra.out.fr fb)
  replace Rb := Lib.hid (Rb.out.fr fb)
  replace L := Lib.hid (L.out.step h)
  clear fb
  clear hb h
  rw [show same [[120], []] [[120], []] = true by decide +kernel]
  go_wp2
  go_ret
  exact ⟨rfl, C.out.end_ HX0.out⟩
end Wl
end Go.Proofs.Ytihanhdepijijaa
