/-
  Layer 6: what the package's functions are to hand back (proved of the landed code elsewhere); the count of the laws' few.
-/
import Derived.Test.YtgldbfdiebkfiaaDoorSealRef5
import Derived.Test.YtgldbfdiebkfiaaDoorLawKit
namespace Go.Proofs.YtgldbfdiebkfiaaDoor
open Go.RowKit
namespace Se
attribute [local go_sem] S3.B_size S3.B_app S3.B_list

/-- The package's functions, in a world that is laid. -/
structure Prg (W : World) : Prop where
  sealP : ∀ k n p : List UInt8, k.length + n.length + p.length ≤ 2100 → S5.Sg.Ok W 16 #[.string (S3.B k), .string (S3.B n), .string (S3.B p)] (.agg #[.string (S3.B n), .string (S3.B (mix k n p)), .string (S3.B (tag k n (mix k n p)))])
  openP : ∀ k n d t : List UInt8, k.length + n.length + d.length ≤ 2100 → S5.Sg.Ok W 10 #[.string (S3.B k), .agg #[.string (S3.B n), .string (S3.B d), .string (S3.B t)]] (.tuple #[.string (S3.B (openV k ⟨n, d, t⟩).1), .bool (openV k ⟨n, d, t⟩).2])
  wrapP : ∀ (y : Int) (s p : List UInt8), S5.Sg.isI y → s.length + p.length ≤ 2100 → S5.Sg.Ok W 12 #[.int .i64 y, .string (S3.B s), .string (S3.B p)] (.tuple #[wrapC (wrapV y s p).1, .bool (wrapV y s p).2])
  unwrapP : ∀ (x to eph : Int) (n d t : List UInt8), S5.Sg.isI x → S5.Sg.isI to → S5.Sg.isI eph → n.length + d.length ≤ 2100 → S5.Sg.Ok W 14 #[.int .i64 x, .agg #[.int .i64 to, .int .i64 eph, .string (S3.B n), .string (S3.B d), .string (S3.B t)]] (.tuple #[.string (S3.B (unwrapV x ⟨to, eph, ⟨n, d, t⟩⟩).1), .bool (unwrapV x ⟨to, eph, ⟨n, d, t⟩⟩).2])
def Landed : Prop := ∀ W : World, S3.Laid W → Prg W

/-! ### few -/
def total (ls : List (List UInt8)) : Nat := ls.flatten.length
theorem total_take (ls : List (List UInt8)) (j : Nat) (s : List UInt8) (h : ls[j]? = some s) : total (ls.take (j + 1)) = total (ls.take j) + s.length := by
  unfold total
  rw [List.take_add_one, h]
  simp
theorem total_le (ls : List (List UInt8)) (j : Nat) : total (ls.take j) ≤ total ls := by
  have e := congrArg (fun l => (List.flatten l).length) (List.take_append_drop j ls)
  simp only [List.flatten_append, List.length_append] at e
  unfold total
  omega
set_option maxHeartbeats 2000000 in
theorem few_any (A : Option Addr) (ls : List (List UInt8)) (cap : Nat) (w : World) (hr : S2.Row w w.heap.size A (S2.Ss ls)) (hn : ls.length ≤ 100) (hl : total ls ≤ 1152921504606846976) :
    Calls Tryd.prog 9 #[.slice A ls.length cap] w fun e w' => e = .returned (.bool (decide (total ls ≤ 2000))) ∧ w' = w := by
  obtain ⟨b, hb⟩ : ∃ b, b = decide (total ls ≤ 2000) := ⟨_, rfl⟩
  rw [← hb]
  have HB := Lib.hid hb
  have HL := Lib.hid hl
  have HR := Lib.hid hr
  have hnl : (ls.length : Int) ≤ 100 := by omega
  clear hb hl hr
  go_enter Tryd.func9, Tryd.ntmps9
  go_wp2
  go_loopw [3, 4] (fun vt vi wr => ∃ j : Nat, j ≤ ls.length ∧ vi = .int .i64 (j : Int) ∧ vt = .int .i64 (total (ls.take j) : Nat) ∧ wr = w)
    (fun _ vi _ => 100 - (intOf vi).toNat)
  case atStart =>
    exact ⟨0, by omega, rfl, rfl, rfl⟩
  case round =>
    obtain ⟨j, hj, rfl, rfl, rfl⟩ := hrel
    by_cases hlt : j < ls.length
    · have hlt' : (j : Int) < (ls.length : Int) := by omega
      have hst := total_take ls j ls[j] (List.getElem?_eq_getElem hlt)
      have hle := total_le ls (j + 1)
      have hHL := HL.out
      obtain ⟨a, rfl, hab, hcell⟩ := HR.out.str hlt
      obtain ⟨x, hx⟩ : ∃ x, x = ls[j] := ⟨_, rfl⟩
      rw [← hx] at hst hcell
      replace hcell : wr.cell? (a.add j) = some (.string (S3.B x)) := hcell
      obtain ⟨p, hp⟩ : ∃ p, p = total (ls.take j) := ⟨_, rfl⟩
      rw [← hp] at hst ⊢
      have HS := Lib.hid hst
      have h1 : (p : Int) + (x.length : Int) ≤ 1152921504606846976 := by omega
      clear hst hx hp hle hHL hn
      go_wp2
      go_roundw
      case rel => exact ⟨j + 1, hlt, by go_num, by rw [HS.out, Int.natCast_add], trivial⟩
      case measure => simp [intOf]; omega
    · obtain rfl : j = ls.length := by omega
      rw [List.take_length]
      have hb2 : decide (((total ls : Nat) : Int) ≤ 2000) = b := by rw [HB.out]; apply decide_eq_decide.2; omega
      have HB2 := Lib.hid hb2
      obtain ⟨p, hp⟩ : ∃ p, p = total ls := ⟨_, rfl⟩
      rw [← hp] at HB2 ⊢
      clear hb2 hp hn
      go_wp2
      go_ret
      exact ⟨congrArg (fun x => Ending.returned (.bool x)) ((decide_eq_decide.2 (by omega)).trans HB2.out), rfl⟩
end Se
end Go.Proofs.YtgldbfdiebkfiaaDoor
