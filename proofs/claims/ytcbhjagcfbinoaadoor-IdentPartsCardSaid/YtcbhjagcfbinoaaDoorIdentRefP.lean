/-
  Layer 11: the document's own Parse (agoraref11).
-/
import Derived.Test.YtcbhjagcfbinoaaDoorIdentRefH
namespace Go.Proofs.YtcbhjagcfbinoaaDoor
open Go.RowKit
namespace Idt
attribute [local go_sem] S2.B_size S2.B_drop' S2.B_take S2.B_list S2.B_app
/-- What Parse answers. -/
def IsParse (s a : Str) (n : Int) (ok : Bool) : Prop := (ok = true ∧ Hd s a n) ∨ (ok = false ∧ a = [] ∧ n = 0 ∧ ∀ b m, ¬ Hd s b m)
/-- Parse's answer, as the walks end in it. -/
def ParseAns (s : Str) (e : Ending) : Prop := ∃ a n ok, IsParse s a n ok ∧ e = .returned (.tuple #[.string (S2.B a), .int .i64 n, .bool ok])
theorem ParseAns.of {s a : Str} {n : Int} {ok : Bool} (h : IsParse s a n ok) : ParseAns s (.returned (.tuple #[.string (S2.B a), .int .i64 n, .bool ok])) := ⟨a, n, ok, h, rfl⟩
theorem hd_take {s b : Str} {i : Int} (h : Hd s b i) : s.length = b.length + 1 + (Lib.itoa i).length ∧ b = s.take (s.length - (Lib.itoa i).length - 1) ∧ 1 ≤ b.length := by
  have hl : s.length = b.length + 1 + (Lib.itoa i).length := by rw [h.eq]; simp; omega
  refine ⟨hl, ?_, (name_pos h.name).1⟩
  have e : s.length - (Lib.itoa i).length - 1 = b.length := by omega
  rw [e]
  conv => rhs; rw [h.eq]
  rw [List.take_left]
theorem hd_of_handle {s a : Str} {n : Int} (hs : s ≠ []) (h : handle a n = s) : Hd s a n := by
  unfold handle at h
  split at h
  · rename_i hh
    exact ⟨hh.1, hh.2.1, hh.2.2, h.symm⟩
  · exact absurd h.symm hs
theorem parse_uniq {s a b : Str} {m n : Int} {x y : Bool} (h : IsParse s a m x) (h' : IsParse s b n y) : a = b ∧ m = n ∧ x = y := by
  rcases h with ⟨rfl, h⟩ | ⟨rfl, rfl, rfl, h⟩
  · rcases h' with ⟨rfl, h'⟩ | ⟨_, _, _, h'⟩
    · obtain ⟨h1, h2⟩ := h.uniq h'
      exact ⟨h1, h2, rfl⟩
    · exact absurd h (h' _ _)
  · rcases h' with ⟨rfl, h'⟩ | ⟨rfl, rfl, rfl, _⟩
    · exact absurd h' (h _ _)
    · exact ⟨rfl, rfl, rfl⟩
set_option maxHeartbeats 2000000 in
set_option maxRecDepth 100000 in
theorem refParse_any (s : Str) (w : World) (hs : s.length ≤ 1099511627776) :
    Calls Tryd.prog 11 #[.string (S2.B s)] w fun e w' => ParseAns s e ∧ w = w' := by
  have hs3 : (s.length : Int) ≤ 1099511627776 := by omega
  have HSL := Lib.hid hs
  clear hs
  go_enter Tryd.func11, Tryd.ntmps11
  go_wp2_with fail
  go_loopw [5] (fun i wr => ∃ j : Nat, i = .int .i64 (j : Int) ∧ j ≤ 20 ∧ (∀ (b : Str) (m : Int), m < j → ¬ Hd s b m) ∧ w = wr) (fun i _ => 20 - (intOf i).toNat)
  case atStart => exact ⟨0, rfl, by omega, fun b m hm h => by have := h.lo; omega, rfl⟩
  case round =>
    obtain ⟨j, rfl, hj, hno, rfl⟩ := hrel
    have NO := Lib.hid hno
    clear hno
    by_cases hc : j < 20
    · have hcI : (j : Int) < 20 := by omega
      have KT := Lib.hid (show Calls Tryd.prog 27 #[.int .i64 (j : Int)] w fun e w' => e = .returned (.string (S2.B (Lib.itoa (j : Int)))) ∧ w' = w from S1.textR_any (j : Int) w (by unfold S1.isI64; omega))
      have hle := itoa_le j hc
      have hd1 : ∀ b, Hd s b (j : Int) → _ := fun b h => hd_take h
      obtain ⟨t, ht⟩ : ∃ t, t = Lib.itoa (j : Int) := ⟨_, rfl⟩
      rw [← ht] at KT hle hd1
      have hle3 : (t.length : Int) ≤ 2 := by omega
      have NX : (∀ b, ¬ Hd s b (j : Int)) → ∀ (b : Str) (m : Int), m < ((j + 1 : Nat) : Int) → ¬ Hd s b m := fun h b m hm hd => by
        by_cases e : m = j
        · subst e; exact h b hd
        · exact NO.out b m (by omega) hd
      by_cases hk : t.length + 1 < s.length
      · obtain ⟨k, hkk⟩ : ∃ k, k = s.length - t.length - 1 := ⟨_, rfl⟩
        have hkI : (s.length : Int) - (t.length : Int) - 1 = (k : Int) := by omega
        have hk0 : (0 : Int) < (k : Int) := by omega
        have hkn : 0 < k := by omega
        have hkl : (k : Int) ≤ (s.length : Int) := by omega
        have KH := Lib.hid (refHandle_any (s.take k) (j : Int) w (by rw [List.length_take]; have := HSL.out; omega) (by omega))
        have hne : s ≠ [] := fun e => by rw [e] at hk; simp at hk
        have hto := hd_of_handle (s := s) (a := s.take k) (n := (j : Int)) hne
        obtain ⟨x, hx⟩ : ∃ x, x = handle (s.take k) (j : Int) := ⟨_, rfl⟩
        rw [← hx] at KH hto
        by_cases he : x = s
        · have hb : (x == s) = true := by simpa using he
          have E := Lib.hid (hto he)
          clear hd1 NX NO hto hx he ht hkk hne hk hle hj hc
          go_wp2_with fail
          refine KT.out.mono ?_
          rintro e w1 ⟨rfl, rfl⟩
          go_wp2_with fail
          refine KH.out.mono ?_
          rintro e w1 ⟨rfl, rfl⟩
          go_wp2
          go_ret3
          exact ⟨ParseAns.of (.inl ⟨rfl, E.out⟩), rfl⟩
        · have hb : (x == s) = false := by simpa using he
          have NN := Lib.hid (NX fun b h => by
            obtain ⟨h1, h2, h3⟩ := hd1 b h
            rw [← hkk] at h2
            exact he (hx.trans (by rw [← h2]; exact h.handle)))
          clear hd1 NX NO hto hx he ht hkk hne hk hle hj
          go_wp2_with fail
          refine KT.out.mono ?_
          rintro e w1 ⟨rfl, rfl⟩
          go_wp2_with fail
          refine KH.out.mono ?_
          rintro e w1 ⟨rfl, rfl⟩
          go_wp2
          go_roundw
          case rel => exact ⟨j + 1, by go_num, by omega, NN.out, trivial⟩
          case measure => simp [intOf]; omega
      · have hkI : ¬ (0 : Int) < (s.length : Int) - (t.length : Int) - 1 := by omega
        have NN := Lib.hid (NX fun b h => by
          obtain ⟨h1, h2, h3⟩ := hd1 b h
          omega)
        clear hd1 NX NO ht hk hle hj
        go_wp2_with fail
        refine KT.out.mono ?_
        rintro e w1 ⟨rfl, rfl⟩
        go_wp2
        go_roundw
        case rel => exact ⟨j + 1, by go_num, by omega, NN.out, trivial⟩
        case measure => simp [intOf]; omega
    · have hcI : ¬ (j : Int) < 20 := by omega
      have E := Lib.hid (show IsParse s [] 0 false from .inr ⟨rfl, rfl, rfl, fun b m h => NO.out b m (by have := h.hi; omega) h⟩)
      clear NO hj hc
      go_wp2
      go_ret3
      exact ⟨ParseAns.of E.out, rfl⟩
end Idt
end Go.Proofs.YtcbhjagcfbinoaaDoor
