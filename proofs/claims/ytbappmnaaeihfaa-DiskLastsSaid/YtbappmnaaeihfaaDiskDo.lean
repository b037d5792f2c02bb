/-
  Layer 9 (disk): the laws' operation: do.
-/
import Derived.Test.YtbappmnaaeihfaaDiskSmall
import Derived.Deep.RegionHeld3
namespace Go.Proofs.Ytbappmnaaeihfaa
open Go.RowKit
namespace Dk
/-- What an operation answers, and the machine behind it. -/
def MD.act (D : MD) (a : Ac) : (Str × Int) × MD :=
  if a.Do % 11 = 0 ∨ a.Do % 11 = 1 then (([], (D.app a.F a.S).1), (D.app a.F a.S).2)
  else if a.Do % 11 = 2 then (([], (D.flush a.F).1), (D.flush a.F).2)
  else if a.Do % 11 = 3 then (([], (D.cut a.F a.N).1), (D.cut a.F a.N).2)
  else if a.Do % 11 = 4 then (([], (D.turn a.F a.G).1), (D.turn a.F a.G).2)
  else if a.Do % 11 = 5 then (([], 0), D.Crash a.K)
  else if a.Do % 11 = 6 then (([], 0), D.lose a.N)
  else if a.Do % 11 = 7 then (([], 0), D.start)
  else if a.Do % 11 = 8 then (D.read a.F, D)
  else if a.Do % 11 = 10 then (([], 0), D.arm a.N a.K)
  else (([], 0), D)
set_option maxHeartbeats 4000000 in
set_option maxRecDepth 100000 in
theorem do_any (X : Nat → Prop) (p : Nat) (D : MD) (a : Ac) (n : Nat) (hn : n = a.K.length) (hs : a.S.length ≤ 1000000000) (w : World) (ha : a.In X w) (h : Dk X w p D) :
    Calls Try.prog 12 #[ptr p, .agg #[.int .i64 a.Do, .int .i64 a.F, .int .i64 a.G, .int .i64 a.N, .string (S2.B a.S), .slice a.A n a.c]] w fun e w' => e = .returned (.tuple #[.string (S2.B (D.act a).1.1), .int .i64 (D.act a).1.2]) ∧ Dk X w' p (D.act a).2 ∧ Fr X w w' := by
  obtain ⟨Do, F, G, N, S, A, c, K⟩ := a
  obtain ⟨hrow, hkin, hnI, _, _⟩ := ha
  simp only at *
  have KP := Lib.hid (pick_any Do)
  have HR := Lib.hid (show Rz X (w.alloc (.cells #[.int .i64 Do, .int .i64 F, .int .i64 G, .int .i64 N, .string (S2.B S), .slice A n c] 30)) A K from hrow.fr ((Fr.refl X w).alloc h.lt _))
  have H := Lib.hid (show Dk X (w.alloc (.cells #[.int .i64 Do, .int .i64 F, .int .i64 G, .int .i64 N, .string (S2.B S), .slice A n c] 30)) p D from h.alloc _)
  have FR := Lib.hid (show Fr X w (w.alloc (.cells #[.int .i64 Do, .int .i64 F, .int .i64 G, .int .i64 N, .string (S2.B S), .slice A n c] 30)) from (Fr.refl X w).alloc h.lt _)
  have HK := Lib.hid hkin
  have HNI := Lib.hid hnI
  have HN := Lib.hid hn
  have HSL := Lib.hid hs
  clear hrow hkin hnI hn hs h
  obtain ⟨k, hk⟩ : ∃ k, k = Do % 11 := ⟨_, rfl⟩
  have hk0 : 0 ≤ k ∧ k ≤ 10 := by omega
  have R := Lib.hid (show D.act ⟨Do, F, G, N, S, A, c, K⟩ = if k = 0 ∨ k = 1 then (([], (D.app F S).1), (D.app F S).2) else if k = 2 then (([], (D.flush F).1), (D.flush F).2) else if k = 3 then (([], (D.cut F N).1), (D.cut F N).2) else if k = 4 then (([], (D.turn F G).1), (D.turn F G).2) else if k = 5 then (([], 0), D.Crash K) else if k = 6 then (([], 0), D.lose N) else if k = 7 then (([], 0), D.start) else if k = 8 then (D.read F, D) else if k = 10 then (([], 0), D.arm N K) else (([], 0), D) by rw [hk]; rfl)
  rw [← hk] at KP
  clear hk
  have hcase : k = 0 ∨ k = 1 ∨ k = 2 ∨ k = 3 ∨ k = 4 ∨ k = 5 ∨ k = 6 ∨ k = 7 ∨ k = 8 ∨ k = 9 ∨ k = 10 := by omega
  clear hk0
  rcases hcase with rfl | rfl | rfl | rfl | rfl | rfl | rfl | rfl | rfl | rfl | rfl
  · replace R := Lib.hid (show _ = ((([], (D.app F S).1), (D.app F S).2) : (Str × Int) × MD) from R.out)
    go_enter Try.func12, Try.ntmps12
    go_wp2_with fail
    refine (KP.out _).mono ?_
    rintro e w1 ⟨rfl, hq⟩
    obtain rfl := hq
    go_wp2_with fail
    refine (Append_any X p D F S HSL.out _ H.out).mono ?_
    rintro e w2 ⟨rfl, h2, f2⟩
    have H2 := Lib.hid h2
    have F2 := Lib.hid (FR.out.trans f2)
    clear h2 f2
    go_wp2
    go_ret2
    exact ⟨by rw [R.out]; rfl, by rw [R.out]; exact H2.out, F2.out⟩
  · replace R := Lib.hid (show _ = ((([], (D.app F S).1), (D.app F S).2) : (Str × Int) × MD) from R.out)
    go_enter Try.func12, Try.ntmps12
    go_wp2_with fail
    refine (KP.out _).mono ?_
    rintro e w1 ⟨rfl, hq⟩
    obtain rfl := hq
    go_wp2_with fail
    refine (Append_any X p D F S HSL.out _ H.out).mono ?_
    rintro e w2 ⟨rfl, h2, f2⟩
    have H2 := Lib.hid h2
    have F2 := Lib.hid (FR.out.trans f2)
    clear h2 f2
    go_wp2
    go_ret2
    exact ⟨by rw [R.out]; rfl, by rw [R.out]; exact H2.out, F2.out⟩
  · replace R := Lib.hid (show _ = ((([], (D.flush F).1), (D.flush F).2) : (Str × Int) × MD) from R.out)
    go_enter Try.func12, Try.ntmps12
    go_wp2_with fail
    refine (KP.out _).mono ?_
    rintro e w1 ⟨rfl, hq⟩
    obtain rfl := hq
    go_wp2_with fail
    refine (Flush_any X p D F _ H.out).mono ?_
    rintro e w2 ⟨rfl, h2, f2⟩
    have H2 := Lib.hid h2
    have F2 := Lib.hid (FR.out.trans f2)
    clear h2 f2
    go_wp2
    go_ret2
    exact ⟨by rw [R.out]; rfl, by rw [R.out]; exact H2.out, F2.out⟩
  · replace R := Lib.hid (show _ = ((([], (D.cut F N).1), (D.cut F N).2) : (Str × Int) × MD) from R.out)
    go_enter Try.func12, Try.ntmps12
    go_wp2_with fail
    refine (KP.out _).mono ?_
    rintro e w1 ⟨rfl, hq⟩
    obtain rfl := hq
    go_wp2_with fail
    refine (Cut_any X p D F N _ H.out).mono ?_
    rintro e w2 ⟨rfl, h2, f2⟩
    have H2 := Lib.hid h2
    have F2 := Lib.hid (FR.out.trans f2)
    clear h2 f2
    go_wp2
    go_ret2
    exact ⟨by rw [R.out]; rfl, by rw [R.out]; exact H2.out, F2.out⟩
  · replace R := Lib.hid (show _ = ((([], (D.turn F G).1), (D.turn F G).2) : (Str × Int) × MD) from R.out)
    go_enter Try.func12, Try.ntmps12
    go_wp2_with fail
    refine (KP.out _).mono ?_
    rintro e w1 ⟨rfl, hq⟩
    obtain rfl := hq
    go_wp2_with fail
    refine (Turn_any X p D F G _ H.out).mono ?_
    rintro e w2 ⟨rfl, h2, f2⟩
    have H2 := Lib.hid h2
    have F2 := Lib.hid (FR.out.trans f2)
    clear h2 f2
    go_wp2
    go_ret2
    exact ⟨by rw [R.out]; rfl, by rw [R.out]; exact H2.out, F2.out⟩
  · replace R := Lib.hid (show _ = ((([], 0), D.Crash K) : (Str × Int) × MD) from R.out)
    go_enter Try.func12, Try.ntmps12
    go_wp2_with fail
    refine (KP.out _).mono ?_
    rintro e w1 ⟨rfl, hq⟩
    obtain rfl := hq
    go_wp2_with fail
    refine (Crash_any X p D K A n c HN.out HK.out _ HR.out H.out).mono ?_
    rintro e w2 ⟨rfl, h2, f2⟩
    have H2 := Lib.hid h2
    have F2 := Lib.hid (FR.out.trans f2)
    clear h2 f2
    go_wp2
    go_ret2
    exact ⟨by rw [R.out]; rfl, by rw [R.out]; exact H2.out, F2.out⟩
  · replace R := Lib.hid (show _ = ((([], 0), D.lose N) : (Str × Int) × MD) from R.out)
    go_enter Try.func12, Try.ntmps12
    go_wp2_with fail
    refine (KP.out _).mono ?_
    rintro e w1 ⟨rfl, hq⟩
    obtain rfl := hq
    go_wp2_with fail
    refine (lose_any X p D N HNI.out _ H.out).mono ?_
    rintro e w2 ⟨rfl, h2, f2⟩
    have H2 := Lib.hid h2
    have F2 := Lib.hid (FR.out.trans f2)
    clear h2 f2
    go_wp2
    go_ret2
    exact ⟨by rw [R.out]; rfl, by rw [R.out]; exact H2.out, F2.out⟩
  · replace R := Lib.hid (show _ = ((([], 0), D.start) : (Str × Int) × MD) from R.out)
    go_enter Try.func12, Try.ntmps12
    go_wp2_with fail
    refine (KP.out _).mono ?_
    rintro e w1 ⟨rfl, hq⟩
    obtain rfl := hq
    go_wp2_with fail
    refine (start_any X p D _ H.out).mono ?_
    rintro e w2 ⟨rfl, h2, f2⟩
    have H2 := Lib.hid h2
    have F2 := Lib.hid (FR.out.trans f2)
    clear h2 f2
    go_wp2
    go_ret2
    exact ⟨by rw [R.out]; rfl, by rw [R.out]; exact H2.out, F2.out⟩
  · replace R := Lib.hid (show _ = ((D.read F, D) : (Str × Int) × MD) from R.out)
    go_enter Try.func12, Try.ntmps12
    go_wp2_with fail
    refine (KP.out _).mono ?_
    rintro e w1 ⟨rfl, hq⟩
    obtain rfl := hq
    go_wp2_with fail
    refine (Read_any X p D F _ H.out).mono ?_
    rintro e w2 ⟨rfl, h2, f2⟩
    have H2 := Lib.hid h2
    have F2 := Lib.hid (FR.out.trans f2)
    clear h2 f2
    go_wp2
    go_ret2
    exact ⟨by rw [R.out]; rfl, by rw [R.out]; exact H2.out, F2.out⟩
  · replace R := Lib.hid (show _ = ((([], 0), D) : (Str × Int) × MD) from R.out)
    go_enter Try.func12, Try.ntmps12
    go_wp2_with fail
    refine (KP.out _).mono ?_
    rintro e w1 ⟨rfl, hq⟩
    obtain rfl := hq
    go_wp2
    go_ret2
    exact ⟨by rw [R.out]; rfl, by rw [R.out]; exact H.out, FR.out⟩
  · replace R := Lib.hid (show _ = ((([], 0), D.arm N K) : (Str × Int) × MD) from R.out)
    go_enter Try.func12, Try.ntmps12
    go_wp2_with fail
    refine (KP.out _).mono ?_
    rintro e w1 ⟨rfl, hq⟩
    obtain rfl := hq
    go_wp2_with fail
    refine (Arm_any X p D N HNI.out K A n c HN.out HK.out _ HR.out H.out).mono ?_
    rintro e w2 ⟨rfl, h2, f2⟩
    have H2 := Lib.hid h2
    have F2 := Lib.hid (FR.out.trans f2)
    clear h2 f2
    go_wp2
    go_ret2
    exact ⟨by rw [R.out]; rfl, by rw [R.out]; exact H2.out, F2.out⟩
end Dk
end Go.Proofs.Ytbappmnaaeihfaa
