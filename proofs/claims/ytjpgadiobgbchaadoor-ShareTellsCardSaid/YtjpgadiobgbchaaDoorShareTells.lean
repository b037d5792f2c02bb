/-
  Layer 7: ShareTells' walk.
-/
import Derived.Test.YtjpgadiobgbchaaDoorShareSmall
import Derived.Deep.Slices
namespace Go.Proofs.YtjpgadiobgbchaaDoor
open Go.RowKit
namespace Sh
attribute [local go_sem] S3.B_size S3.B_app S3.B_list

set_option maxHeartbeats 8000000 in
set_option maxRecDepth 100000 in
theorem tells_walk (L : Landed) (s t n : Int) (x : List UInt8) (B : Option Addr) (l : List (Int × Int)) (c : Nat) (W : World) (hW : S3.Laid W) (is : S4.isI64 s) (it : S4.isI64 t) (in_ : S4.isI64 n) (hl : Rw W B l) (hc : l.length ≤ c) (hlm : l.length ≤ 4611686018427387904) :
    Calls Tryd.prog 3 #[.int .i64 s, .int .i64 t, .int .i64 n, .string (S3.B x), .slice B l.length c] W fun e w' => e = .returned (.bool true) ∧ Below W.heap.size W w' := by
  have KS := Lib.hid (fun W hW => small_ok L W hW)
  have A := Lib.hid (Lk.At.start hW)
  have RL := Lib.hid hl
  have hlm' : (l.length : Int) ≤ 4611686018427387904 := by omega
  by_cases hx : 1000 < x.length
  · have hx' : (1000 : Int) < (x.length : Int) := by omega
    clear hl is it in_ hW
    go_enter Tryd.func3, Tryd.ntmps3
    go_wp2_with fail
    refine (KS.out _ A.out.laid _ (Below.refl _ _)).mono ?_
    rintro e w1 ⟨rfl, hb⟩
    replace A := Lib.hid (A.out.step hb)
    replace RL := Lib.hid (RL.out.step hb)
    clear hb
    go_wp2
    go_ret
    exact ⟨rfl, A.out.bel⟩
  have hx' : (x.length : Int) ≤ 1000 := by omega
  by_cases hl24 : 24 < l.length
  · have hl' : (24 : Int) < (l.length : Int) := by omega
    clear hl is it in_ hW
    go_enter Tryd.func3, Tryd.ntmps3
    go_wp2_with fail
    refine (KS.out _ A.out.laid _ (Below.refl _ _)).mono ?_
    rintro e w1 ⟨rfl, hb⟩
    replace A := Lib.hid (A.out.step hb)
    replace RL := Lib.hid (RL.out.step hb)
    clear hb
    go_wp2
    go_ret
    exact ⟨rfl, A.out.bel⟩
  have hl' : (l.length : Int) ≤ 24 := by omega
  have KJ : Hid (∀ w, Rw w B l → Calls Tryd.prog 12 #[.slice B l.length c, .int .i64 t] w fun e w' => e = .returned (.tuple #[.int .i64 (joinP l t).1, .bool (joinP l t).2]) ∧ Below w.heap.size w w') := Lib.hid fun w h => L.join B l c t w h (by omega) hc it
  have KR : Hid (∀ w, Rw w B l → Calls Tryd.prog 13 #[.slice B l.length c, .int .i64 t] w fun e w' => e = .returned (.tuple #[.int .i64 (joinP l t).1, .bool (joinP l t).2]) ∧ Below w.heap.size w w') := Lib.hid fun w h => rjoin_any B l c t w h.row (by omega) hc
  have KF : Hid (∀ w, Rw w B l → Calls Tryd.prog 14 #[.slice B l.length c, .int .i64 t] w fun e w' => e = .returned (.bool (fitP l t)) ∧ Below w.heap.size w w') := Lib.hid fun w h => L.fits B l c t w h (by omega) hc it
  have KG : Hid (∀ w, Rw w B l → Calls Tryd.prog 15 #[.slice B l.length c, .int .i64 t] w fun e w' => e = .returned (.bool (fitP l t)) ∧ Below w.heap.size w w') := Lib.hid fun w h => rfits_any B l c t w h.row (by omega) hc it
  obtain ⟨jv, hjv⟩ : ∃ j, j = (joinP l t).1 := ⟨_, rfl⟩
  obtain ⟨jb, hjb⟩ : ∃ j, j = (joinP l t).2 := ⟨_, rfl⟩
  obtain ⟨fb, hfb⟩ : ∃ j, j = fitP l t := ⟨_, rfl⟩
  rw [← hjv, ← hjb] at KJ KR
  rw [← hfb] at KF KG
  clear hjv hjb hfb hl hlm' hl24
  by_cases hok : SplitOk s t n
  · obtain ⟨o1, o2, o3, o4, o5⟩ := hok
    obtain ⟨T, rfl⟩ := Int.eq_ofNat_of_zero_le (show 0 ≤ t by omega)
    obtain ⟨N, rfl⟩ := Int.eq_ofNat_of_zero_le (show 0 ≤ n by omega)
    have hN1 : 1 ≤ N := by omega
    have k1 := fun w hw => L.splitYes s T N x w hw (by omega) (by omega) (by omega) (by omega) o4 o5
    have k2 := fun w => rsplit_yes s T N x w (by omega) (by omega) (by omega) o4 o5 (by omega)
    have hsl := shares_len (coefs s x T) N
    generalize shares (coefs s x T) N = sh at k1 k2 hsl
    have hss : decide (sh = sh) = true := decide_eq_true rfl
    have KSA : Hid (∀ (w : World) (A1 A2 : Option Addr) (c1 c2 : Nat), Rw w A1 sh → Rw w A2 sh → Calls Tryd.prog 11 #[.slice A1 N c1, .slice A2 N c2] w fun e w' => e = .returned (.bool true) ∧ Below w.heap.size w w') := Lib.hid fun w A1 A2 c1 c2 h1 h2 => by
      have q := rsame_any A1 A2 sh sh c1 c2 w h1.row h2.row (by omega)
      rw [hss, hsl] at q
      exact q
    have K1 := Lib.hid k1
    have K2 := Lib.hid k2
    have HN1 := Lib.hid hN1
    clear k1 k2 hsl hss hN1 is it in_ o1 o2 o3 o4 o5 hW hx
    go_enter Tryd.func3, Tryd.ntmps3
    go_wp2_with fail
    refine (KS.out _ A.out.laid _ (Below.refl _ _)).mono ?_
    rintro e w1 ⟨rfl, hb⟩
    replace A := Lib.hid (A.out.step hb)
    replace RL := Lib.hid (RL.out.step hb)
    clear hb
    go_wp2_with fail
    refine (K1.out w1 A.out.laid).mono ?_
    rintro e w2 ⟨⟨A1, c1, rfl, ho1⟩, hb⟩
    replace A := Lib.hid (A.out.step hb)
    replace RL := Lib.hid (RL.out.step hb)
    have R1 := Lib.hid (Rw.own ho1)
    clear ho1
    clear hb
    go_wp2_with fail
    refine (K2.out w2).mono ?_
    rintro e w3 ⟨⟨v2, rfl, ho2⟩, hb⟩
    replace A := Lib.hid (A.out.step hb)
    replace RL := Lib.hid (RL.out.step hb)
    replace R1 := Lib.hid (R1.out.step hb)
    obtain ⟨a2, c2, rfl, _⟩ := own_some ho2 HN1.out
    have R2 := Lib.hid (Rw.own ho2)
    clear ho2
    clear hb
    go_wp2_with fail
    refine (KSA.out w3 _ _ _ _ R1.out R2.out).mono ?_
    rintro e w4 ⟨rfl, hb⟩
    replace A := Lib.hid (A.out.step hb)
    replace RL := Lib.hid (RL.out.step hb)
    replace R1 := Lib.hid (R1.out.step hb)
    replace R2 := Lib.hid (R2.out.step hb)
    clear hb
    go_wp2_with fail
    refine (KJ.out w4 RL.out).mono ?_
    rintro e w5 ⟨rfl, hb⟩
    replace A := Lib.hid (A.out.step hb)
    replace RL := Lib.hid (RL.out.step hb)
    replace R1 := Lib.hid (R1.out.step hb)
    replace R2 := Lib.hid (R2.out.step hb)
    clear hb
    go_wp2_with fail
    refine (KR.out w5 RL.out).mono ?_
    rintro e w6 ⟨rfl, hb⟩
    replace A := Lib.hid (A.out.step hb)
    replace RL := Lib.hid (RL.out.step hb)
    replace R1 := Lib.hid (R1.out.step hb)
    replace R2 := Lib.hid (R2.out.step hb)
    clear hb
    go_wp2_with fail
    refine (KF.out w6 RL.out).mono ?_
    rintro e w7 ⟨rfl, hb⟩
    replace A := Lib.hid (A.out.step hb)
    replace RL := Lib.hid (RL.out.step hb)
    replace R1 := Lib.hid (R1.out.step hb)
    replace R2 := Lib.hid (R2.out.step hb)
    clear hb
    go_wp2_with fail
    refine (KG.out w7 RL.out).mono ?_
    rintro e w8 ⟨rfl, hb⟩
    replace A := Lib.hid (A.out.step hb)
    replace RL := Lib.hid (RL.out.step hb)
    replace R1 := Lib.hid (R1.out.step hb)
    replace R2 := Lib.hid (R2.out.step hb)
    clear hb
    go_wp2
    go_ret
    exact ⟨rfl, A.out.bel⟩
  · have k1 := fun w hw => L.splitNo s t n x w hw is it in_ (by omega) hok
    have k2 := fun w => rsplit_no s t n x w hok
    have hss : decide (([] : List (Int × Int)) = []) = true := decide_eq_true rfl
    have KSA : Hid (∀ (w : World) (A1 A2 : Option Addr) (c1 c2 : Nat), Calls Tryd.prog 11 #[.slice A1 0 c1, .slice A2 0 c2] w fun e w' => e = .returned (.bool true) ∧ Below w.heap.size w w') := Lib.hid fun w A1 A2 c1 c2 => by
      have q := rsame_any A1 A2 [] [] c1 c2 w (.inl rfl) (.inl rfl) (by simp)
      rw [hss] at q
      exact q
    have K1 := Lib.hid k1
    have K2 := Lib.hid k2
    clear k1 k2 hss is it in_ hok hW hx
    go_enter Tryd.func3, Tryd.ntmps3
    go_wp2_with fail
    refine (KS.out _ A.out.laid _ (Below.refl _ _)).mono ?_
    rintro e w1 ⟨rfl, hb⟩
    replace A := Lib.hid (A.out.step hb)
    replace RL := Lib.hid (RL.out.step hb)
    clear hb
    go_wp2_with fail
    refine (K1.out w1 A.out.laid).mono ?_
    rintro e w2 ⟨⟨A1, c1, rfl⟩, hb⟩
    replace A := Lib.hid (A.out.step hb)
    replace RL := Lib.hid (RL.out.step hb)
    clear hb
    go_wp2_with fail
    refine (K2.out w2).mono ?_
    rintro e w3 ⟨rfl, hb⟩
    replace A := Lib.hid (A.out.step hb)
    replace RL := Lib.hid (RL.out.step hb)
    clear hb
    go_wp2_with fail
    refine (KSA.out w3 _ _ _ _).mono ?_
    rintro e w4 ⟨rfl, hb⟩
    replace A := Lib.hid (A.out.step hb)
    replace RL := Lib.hid (RL.out.step hb)
    clear hb
    go_wp2_with fail
    refine (KJ.out w4 RL.out).mono ?_
    rintro e w5 ⟨rfl, hb⟩
    replace A := Lib.hid (A.out.step hb)
    replace RL := Lib.hid (RL.out.step hb)
    clear hb
    go_wp2_with fail
    refine (KR.out w5 RL.out).mono ?_
    rintro e w6 ⟨rfl, hb⟩
    replace A := Lib.hid (A.out.step hb)
    replace RL := Lib.hid (RL.out.step hb)
    clear hb
    go_wp2_with fail
    refine (KF.out w6 RL.out).mono ?_
    rintro e w7 ⟨rfl, hb⟩
    replace A := Lib.hid (A.out.step hb)
    replace RL := Lib.hid (RL.out.step hb)
    clear hb
    go_wp2_with fail
    refine (KG.out w7 RL.out).mono ?_
    rintro e w8 ⟨rfl, hb⟩
    replace A := Lib.hid (A.out.step hb)
    replace RL := Lib.hid (RL.out.step hb)
    clear hb
    go_wp2
    go_ret
    exact ⟨rfl, A.out.bel⟩
end Sh
end Go.Proofs.YtjpgadiobgbchaaDoor
