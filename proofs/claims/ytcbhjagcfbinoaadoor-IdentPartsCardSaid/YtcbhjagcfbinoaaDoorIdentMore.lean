/-
  Layer 11, plain Lean for the landed code: ids by Unhex, handles by the first '@'.
-/
import Derived.Test.YtcbhjagcfbinoaaDoorIdentRefP
import Derived.Test.YtcbhjagcfbinoaaDoorSumHexMath
import Derived.Lib.IndexMore
namespace Go.Proofs.YtcbhjagcfbinoaaDoor
namespace Idt
theorem dig_hexc (c : UInt8) : hexc c = true ↔ S3.dig c.toNat ≠ 16 := by
  rw [hexc_nat]
  unfold S3.dig
  simp only [Bool.or_eq_true, Bool.and_eq_true, decide_eq_true_eq]
  split
  · rename_i h
    exact ⟨fun _ => by omega, fun _ => .inl h⟩
  · rename_i h
    split
    · rename_i h2
      exact ⟨fun _ => by omega, fun _ => .inr h2⟩
    · rename_i h2
      exact ⟨fun hh => by rcases hh with hh | hh <;> contradiction, fun hh => absurd rfl hh⟩
theorem unhex_all : ∀ l : Str, l.length % 2 = 0 → (S3.unhex l).isSome = l.all hexc
  | [], _ => rfl
  | [_], h => by simp at h
  | a :: b :: l, h => by
    have ih := unhex_all l (by simp only [List.length_cons] at h; omega)
    have ha := dig_hexc a
    have hb := dig_hexc b
    rw [S3.unhex, List.all_cons, List.all_cons]
    by_cases h1 : S3.dig a.toNat = 16
    · rw [if_pos (.inl h1), show hexc a = false from by cases hh : hexc a with | false => rfl | true => exact absurd h1 (ha.1 hh)]
      rfl
    by_cases h2 : S3.dig b.toNat = 16
    · rw [if_pos (.inr h2), show hexc b = false from by cases hh : hexc b with | false => rfl | true => exact absurd h2 (hb.1 hh), Bool.false_and, Bool.and_false]
      rfl
    · rw [if_neg (by omega), Option.isSome_map, ih, ha.2 h1, hb.2 h2]
      rfl
theorem id_unhex {l : Str} (h : l.length = 16) : isId l = (S3.unhex l).isSome := by
  unfold isId
  rw [decide_eq_true h, Bool.and_true, unhex_all l (by omega)]
theorem id_long {l : Str} (h : ¬ l.length = 16) : isId l = false := by
  unfold isId
  rw [decide_eq_false h, Bool.and_false]
/-! ### The part before the first '@' -/
theorem index_at : ∀ s : Str, (∃ a x, s = a ++ 64 :: x ∧ (∀ c ∈ a, c ≠ 64) ∧ Lib.index s [64] = (a.length : Int)) ∨ ((∀ c ∈ s, c ≠ 64) ∧ Lib.index s [64] = -1)
  | [] => .inr ⟨by simp, rfl⟩
  | b :: l => by
    by_cases hb : b = 64
    · subst hb
      exact .inl ⟨[], l, rfl, by simp, by simp [Lib.index]⟩
    · have hp : ([64] : Str).isPrefixOf (b :: l) = false := by
        have : ((64 : UInt8) == b) = false := beq_false_of_ne fun e => hb e.symm
        simp [List.isPrefixOf, this]
      rcases index_at l with ⟨a, x, h1, h2, h3⟩ | ⟨h1, h2⟩
      · refine .inl ⟨b :: a, x, by rw [h1]; rfl, fun c hc => ?_, ?_⟩
        · rcases List.mem_cons.1 hc with rfl | hc
          · exact hb
          · exact h2 c hc
        · have hn : ((a.length : Int) == -1) = false := beq_false_of_ne (by omega)
          rw [Lib.index, if_neg (by rw [hp]; decide), h3, if_neg (by rw [hn]; decide), List.length_cons]
          omega
      · refine .inr ⟨fun c hc => ?_, ?_⟩
        · rcases List.mem_cons.1 hc with rfl | hc
          · exact hb
          · exact h1 c hc
        · rw [Lib.index, if_neg (by rw [hp]; decide), h2]
          rfl
theorem cut_at (s : Str) : (∃ a x, s = a ++ 64 :: x ∧ (∀ c ∈ a, c ≠ 64) ∧ Lib.cut s [64] = (a, x, true)) ∨ ((∀ c ∈ s, c ≠ 64) ∧ Lib.cut s [64] = (s, [], false)) := by
  rcases index_at s with ⟨a, x, h1, h2, h3⟩ | ⟨h1, h2⟩
  · refine .inl ⟨a, x, h1, h2, ?_⟩
    unfold Lib.cut
    rw [h3, if_pos (by omega), Int.toNat_natCast, h1]
    simp
  · refine .inr ⟨h1, ?_⟩
    unfold Lib.cut
    rw [h2, if_neg (by omega)]
theorem itoa_some : ∀ n : Nat, n < 20 → Lib.itoa (n : Int) ≠ [] := by decide +kernel
/-- What is parsed, from the two parts of the string. -/
theorem parse_is {s a x : Str} {f : Bool} (hc : Lib.cut s [64] = (a, x, f)) {v : Int} {ok : Bool} (hp : S1.ParseIs x 0 19 v ok) :
    (ok = true → isName a = true → IsParse s a v true) ∧ (ok = false → IsParse s [] 0 false) ∧ (isName a = false → IsParse s [] 0 false) := by
  have hno : (∀ b m, ¬ Hd s b m) → IsParse s [] 0 false := fun h => .inr ⟨rfl, rfl, rfl, h⟩
  rcases cut_at s with ⟨a', x', h1, h2, h3⟩ | ⟨h1, h3⟩
  · rw [h3] at hc
    simp only [Prod.mk.injEq] at hc
    obtain ⟨rfl, rfl, rfl⟩ := hc
    have key : ∀ b m, Hd s b m → a' = b ∧ x' = Lib.itoa m := fun b m hd => split_one h2 (name_at hd.name) (h1.symm.trans hd.eq)
    refine ⟨fun hok hn => ?_, fun hok => hno fun b m hd => ?_, fun hn => hno fun b m hd => ?_⟩
    · rcases hp with ⟨_, _, h5, h6, h7⟩ | ⟨h4, _⟩
      · exact .inl ⟨rfl, hn, h6, h7, by rw [h5]; exact h1⟩
      · rw [hok] at h4; cases h4
    · rcases hp with ⟨h4, _⟩ | ⟨_, _, h5⟩
      · rw [hok] at h4; cases h4
      · refine h5 ⟨m, ?_, (key b m hd).2.symm, hd.lo, hd.hi⟩
        have h8 := hd.lo
        have h9 := hd.hi
        unfold S1.isI64
        omega
    · rw [(key b m hd).1, hd.name] at hn
      cases hn
  · rw [h3] at hc
    simp only [Prod.mk.injEq] at hc
    obtain ⟨rfl, rfl, rfl⟩ := hc
    have hh : ∀ b m, ¬ Hd s b m := fun b m hd => h1 64 (by rw [hd.eq]; simp) rfl
    refine ⟨fun hok _ => ?_, fun _ => hno hh, fun _ => hno hh⟩
    rcases hp with ⟨_, _, h5, h6, h7⟩ | ⟨h4, _⟩
    · have := itoa_some v.toNat (by omega)
      rw [Int.toNat_of_nonneg h6] at this
      exact absurd h5 this
    · rw [hok] at h4; cases h4
end Idt
end Go.Proofs.YtcbhjagcfbinoaaDoor
