/-
  Layer 8: the landed package: areDigests.
-/
import Derived.Test.YtfemgakfckabhaaDoorMerkleApp
import Derived.Shelf.Abstract
import Derived.Laws.Entries
namespace Go.Proofs.YtfemgakfckabhaaDoor
open Go.RowKit
namespace Mk
attribute [local go_sem] S3.B_size S3.B_app S3.B_list S3.B_drop' S3.B_take

def Digs (l : List Str) : Prop := ∀ s ∈ l, s.length = 32
instance (l : List Str) : Decidable (Digs l) := inferInstanceAs (Decidable (∀ s ∈ l, s.length = 32))
set_option maxHeartbeats 1000000 in
set_option maxRecDepth 100000 in
theorem areDigests_any (A : Option Addr) (l : List Str) (c n : Nat) (w : World) (hn : n = l.length) (hr : Rs w A l) (hlen : l.length ≤ 100000) (hsz : ∀ s ∈ l, s.length ≤ 1000000) :
    Calls Tryd.prog 37 #[.slice A n c] w fun e w' => e = .returned (.bool (decide (Digs l))) ∧ w = w' := by
  obtain ⟨b, hb⟩ : ∃ b, b = decide (Digs l) := ⟨_, rfl⟩
  rw [← hb]
  have hn2 : (n : Int) ≤ 100000 := by omega
  have HB := Lib.hid hb
  have HN := Lib.hid hn
  have HR := Lib.hid hr
  have HZ := Lib.hid hsz
  clear hb hn hr hsz hlen
  go_enter Tryd.func37, Tryd.ntmps37
  go_wp2
  go_loop [7] (fun i => ∃ k : Nat, i = .int .i64 (k : Int) ∧ k ≤ n ∧ ∀ j (hj : j < l.length), j < k → (l[j]).length = 32) (fun i => n - (intOf i).toNat)
  case atStart => exact ⟨0, rfl, by omega, fun j _ h => absurd h (by omega)⟩
  case round =>
    obtain ⟨k, rfl, hk, hall⟩ := hrel
    have HA := Lib.hid hall
    clear hall
    by_cases hlt : k < n
    · have hlt' : (k : Int) < n := by omega
      have hkl : k < l.length := by rw [← HN.out]; exact hlt
      obtain ⟨a, rfl⟩ := HR.out.some_ (by omega)
      have hc := HR.out.at_ hkl
      have hz := HZ.out _ (List.getElem_mem hkl)
      obtain ⟨x, hx⟩ : ∃ x, x = l[k] := ⟨_, rfl⟩
      rw [← hx] at hc hz
      have hz2 : (x.length : Int) ≤ 1000000 := by omega
      by_cases hle : x.length = 32
      · have h1 : ((x.length : Int) != 32) = false := by simp; omega
        have HX := Lib.hid hx
        have HL := Lib.hid hle
        clear hx hz hle
        go_wp2
        go_round
        case rel =>
          refine ⟨k + 1, by go_num, by omega, fun j hj hjk => ?_⟩
          by_cases e : j = k
          · subst e
            rw [← HX.out]
            exact HL.out
          · exact HA.out j hj (by omega)
        case measure => simp [intOf]; omega
      · have h1 : ((x.length : Int) != 32) = true := by simp; omega
        have h : b = false := by
          rw [HB.out, decide_eq_false_iff_not]
          intro h
          have := h _ (List.getElem_mem hkl)
          rw [← hx] at this
          omega
        subst h
        clear hx hz hle
        go_wp2
        go_ret
        exact ⟨rfl, rfl⟩
    · have hge : (n : Int) ≤ k := by omega
      have h : b = true := by
        rw [HB.out, decide_eq_true_iff]
        have := HN.out
        intro s hs
        obtain ⟨j, hj, rfl⟩ := List.mem_iff_getElem.1 hs
        exact HA.out j hj (by omega)
      subst h
      go_wp2
      go_ret
      exact ⟨rfl, rfl⟩

theorem run_store_func (P : Program) (w : World) (a : Addr) (m : Mode) (f : Fn) (x y : Array Value) : (store a (.func f x y) m).run P w = stored P w a (.func f x y) m := run_store P w a _ m rfl
end Mk
end Go.Proofs.YtfemgakfckabhaaDoor
