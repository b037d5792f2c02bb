/-
  Layer 3: SumHexes' walk.
-/
import Derived.Test.YtfldbgfeldhboaaDoorSumSmall
import Derived.Test.YtfldbgfeldhboaaDoorSumLaid
import Derived.Test.YtfldbgfeldhboaaDoorSumHexMath
namespace Go.Proofs.YtfldbgfeldhboaaDoor
open Go.RowKit
attribute [local go_sem] B_size B_drop' B_take B_list B_app

set_option maxHeartbeats 4000000 in
set_option maxRecDepth 100000 in
theorem hexes_walk (s t : List UInt8) (w : World) (hs : s.length ≤ 281474976710656) (ht : t.length ≤ 281474976710656) (hW : Laid w) :
    Calls Tryd.prog 4 #[.string (B s), .string (B t)] w fun e w' => e = .returned (.bool true) ∧ Good w w' := by
  have hs3 : (s.length : Int) ≤ 281474976710656 := by omega
  have ht3 : (t.length : Int) ≤ 281474976710656 := by omega
  go_enter Tryd.func4, Tryd.ntmps4
  go_wp2_with fail
  refine (small_any w _ hW (Below.refl _ _)).mono ?_
  rintro e w1 ⟨rfl, hbb⟩
  by_cases h4 : (4000 : Int) < s.length
  · go_wp2
    go_ret
    exact ⟨rfl, Good.of hbb⟩
  by_cases h5 : (4000 : Int) < t.length
  · go_wp2
    go_ret
    exact ⟨rfl, Good.of hbb⟩
  have B1 := Lib.hid hbb
  have hsl : s.length ≤ 4000 := by omega
  have htl : t.length ≤ 4000 := by omega
  clear hbb
  go_wp2_with fail
  refine (hex_any s _ (by omega)).mono ?_
  rintro e w2 ⟨rfl, b⟩
  have B2 := Lib.hid (stepB B1.out b)
  clear b B1
  have hql := hex_length s
  have hdig := hex_digit s
  have k1 : ∀ w, Calls Tryd.prog 10 #[.string (B (hex s))] w fun e w' => e = .returned (.tuple #[.string (B s), .bool true]) ∧ Below w.heap.size w w' := fun w => by
    have := unhex_any (hex s) w (by omega); rw [unhex_hex] at this; exact this
  have k2 : ∀ w, Calls Tryd.prog 10 #[.string (B (hex s ++ [48]))] w fun e w' => e = .returned (.tuple #[.string ⟨#[]⟩, .bool false]) ∧ Below w.heap.size w w' := fun w => by
    have := unhex_any (hex s ++ [48]) w (by rw [List.length_append]; simp; omega); rw [unhex_zero] at this; exact this
  have k3 : ∀ w, Calls Tryd.prog 10 #[.string (B (hex s ++ [65, 48]))] w fun e w' => e = .returned (.tuple #[.string ⟨#[]⟩, .bool false]) ∧ Below w.heap.size w w' := fun w => by
    have := unhex_any (hex s ++ [65, 48]) w (by rw [List.length_append]; simp; omega); rw [unhex_upper] at this; exact this
  obtain ⟨q, hq⟩ : ∃ q, q = hex s := ⟨_, rfl⟩
  rw [← hq] at k1 k2 k3 hql hdig ⊢
  have K1 := Lib.hid k1
  have K2 := Lib.hid k2
  have K3 := Lib.hid k3
  have HD := Lib.hid hdig
  clear k1 k2 k3 hdig hq
  go_wp2_with fail
  refine (K1.out _).mono ?_
  rintro e w3 ⟨rfl, b⟩
  have B3 := Lib.hid (stepB B2.out b)
  clear b B2 K1
  go_wp2_with fail
  go_loopw [9] (fun i wr => ∃ k : Nat, i = .int .i64 (k : Int) ∧ k ≤ q.length ∧ Hid (Below w.heap.size w wr)) (fun i _ => q.length - (intOf i).toNat)
  case atStart => exact ⟨0, rfl, by omega, B3⟩
  case round =>
    clear B3
    obtain ⟨k, rfl, hk, BR⟩ := hrel
    by_cases hk6 : k < q.length
    · have hk7 : (k : Int) < 2 * s.length := by omega
      obtain ⟨d, hd⟩ : ∃ d, d = q[k] := ⟨_, rfl⟩
      have gd : ∀ h, ((B q)[k]'h).toNat = d.toNat := fun h => by rw [hd]; rfl
      have hr := HD.out d (by rw [hd]; exact List.getElem_mem hk6)
      clear hd
      obtain ⟨v, hv⟩ : ∃ v, v = d.toNat := ⟨_, rfl⟩
      rw [← hv] at gd hr
      clear hv
      rcases hr with ⟨r1, r2⟩ | ⟨r1, r2⟩
      · have q1 : (48 : Int) ≤ v := by omega
        have q2 : (v : Int) ≤ 57 := by omega
        clear r1 r2
        go_wp2_with fail
        go_roundw
        case rel => exact ⟨k + 1, by go_num, by omega, BR⟩
        case measure => simp [intOf]; omega
      · have q1 : (48 : Int) ≤ v := by omega
        have q2 : ¬ (v : Int) ≤ 57 := by omega
        have q3 : (97 : Int) ≤ v := by omega
        have q4 : (v : Int) ≤ 102 := by omega
        clear r1 r2
        go_wp2_with fail
        go_roundw
        case rel => exact ⟨k + 1, by go_num, by omega, BR⟩
        case measure => simp [intOf]; omega
    · have hk7 : k = q.length := by omega
      subst hk7
      clear HD
      have hcat : ¬ 9223372036854775807 < 2 * s.length + 1 := by omega
      have hcat2 : ¬ 9223372036854775807 < 2 * s.length + 2 := by omega
      have z1 : ∀ w, (Op.stringOp .add (B q) ⟨#[48]⟩).run Tryd.prog w = .ok (.string (B (q ++ [48]))) w := fun w => by
        rw [run_string_add_sum w (B q) ⟨#[48]⟩ (by rw [B_size]; show q.length + 1 ≤ _; omega)]; exact congrArg (fun b => Result.ok (Value.string b) w) (B_app q [48])
      have z2 : ∀ w, (Op.stringOp .add (B q) ⟨#[65, 48]⟩).run Tryd.prog w = .ok (.string (B (q ++ [65, 48]))) w := fun w => by
        rw [run_string_add_sum w (B q) ⟨#[65, 48]⟩ (by rw [B_size]; show q.length + 2 ≤ _; omega)]; exact congrArg (fun b => Result.ok (Value.string b) w) (B_app q [65, 48])
      cases hu : unhex t with
      | none =>
        have k4 : ∀ w, Calls Tryd.prog 10 #[.string (B t)] w fun e w' => e = .returned (.tuple #[.string ⟨#[]⟩, .bool false]) ∧ Below w.heap.size w w' := fun w => by
          have := unhex_any t w (by omega); rw [hu] at this; exact this
        have K4 := Lib.hid k4
        clear k4 hu
        go_wp2_with fail
        refine (K4.out _).mono ?_
        rintro e w5 ⟨rfl, b⟩
        have B5 := Lib.hid (stepB BR.out b)
        clear b BR
        go_wp2_with fail
        refine (K2.out _).mono ?_
        rintro e w6 ⟨rfl, b⟩
        have B6 := Lib.hid (stepB B5.out b)
        clear b B5
        go_wp2_with fail
        refine (K3.out _).mono ?_
        rintro e w7 ⟨rfl, b⟩
        have B7 := Lib.hid (stepB B6.out b)
        clear b B6
        go_wp2
        go_ret
        exact ⟨rfl, Good.of B7.out⟩
      | some x =>
        have hx := hex_unhex t x hu
        have hxl : x.length ≤ 4000 := by have := hex_length x; rw [hx] at this; omega
        have k4 : ∀ w, Calls Tryd.prog 10 #[.string (B t)] w fun e w' => e = .returned (.tuple #[.string (B x), .bool true]) ∧ Below w.heap.size w w' := fun w => by
          have := unhex_any t w (by omega); rw [hu] at this; exact this
        have k5 : ∀ w, Calls Tryd.prog 16 #[.string (B x)] w fun e w' => e = .returned (.string (B t)) ∧ Below w.heap.size w w' := fun w => by
          have := hex_any x w (by omega); rw [hx] at this; exact this
        have K4 := Lib.hid k4
        have K5 := Lib.hid k5
        clear k4 k5 hu hx
        go_wp2_with fail
        refine (K4.out _).mono ?_
        rintro e w5 ⟨rfl, b⟩
        have B5 := Lib.hid (stepB BR.out b)
        clear b BR
        go_wp2_with fail
        refine (K5.out _).mono ?_
        rintro e w8 ⟨rfl, b⟩
        have B8 := Lib.hid (stepB B5.out b)
        clear b B5
        go_wp2_with fail
        refine (K2.out _).mono ?_
        rintro e w6 ⟨rfl, b⟩
        have B6 := Lib.hid (stepB B8.out b)
        clear b B8
        go_wp2_with fail
        refine (K3.out _).mono ?_
        rintro e w7 ⟨rfl, b⟩
        have B7 := Lib.hid (stepB B6.out b)
        clear b B6
        go_wp2
        go_ret
        exact ⟨rfl, Good.of B7.out⟩

theorem sumHexes_walk (s t : ByteArray) (w : World) (hW : Laid w) (hs : s.size ≤ 281474976710656) (ht : t.size ≤ 281474976710656) :
    Calls Tryd.prog 4 #[.string s, .string t] w fun e w' => e = .returned (.bool true) ∧ Good w w' :=
  hexes_walk s.data.toList t.data.toList w hs ht hW
end Go.Proofs.YtfldbgfeldhboaaDoor
