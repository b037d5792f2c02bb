/-
  Layer 2 (code): a slice that came in or was handed on, read as a list; the conversions between strings and bytes.
-/
import Derived.Test.YtihanhdepijijaaCodeBase
namespace Go.Proofs.Ytihanhdepijijaa.S2
open Go.RowKit
open Cd

theorem add_block (a : Addr) (n : Nat) : (a.add n).block = a.block := by unfold Addr.add; split <;> rfl
/-- The slice value of address A holds the cells xs, below block number bd. -/
def Row (w : World) (bd : Nat) (A : Option Addr) (xs : List Value) : Prop :=
  xs = [] ∨ ∃ a, A = some a ∧ a.block < bd ∧ ∀ j u, xs[j]? = some u → w.cell? (a.add j) = some u
theorem Row.below {w w' : World} {bd : Nat} {A : Option Addr} {xs : List Value} (h : Row w bd A xs) (hb : Below bd w w') : Row w' bd A xs := by
  rcases h with h | ⟨a, rfl, hlt, hc⟩
  · exact .inl h
  · exact .inr ⟨a, rfl, hlt, fun j u hu => (hb.cell (p := a.add j) (by rw [add_block]; exact hlt)).trans (hc j u hu)⟩
theorem Row.more {w : World} {bd bd' : Nat} {A : Option Addr} {xs : List Value} (h : Row w bd A xs) (hb : bd ≤ bd') : Row w bd' A xs := by
  rcases h with h | ⟨a, rfl, hlt, hc⟩
  · exact .inl h
  · exact .inr ⟨a, rfl, by omega, hc⟩
theorem Row.grown {w w' : World} {bd : Nat} {row : Option Nat} {A : Option Addr} {xs : List Value} (h : Row w bd A xs) (hb : bd ≤ w.heap.size) (hg : w.grownBy w' row) (hr : ∀ k, row = some k → bd ≤ k) : Row w' bd A xs := by
  rcases h with h | ⟨a, rfl, hlt, hc⟩
  · exact .inl h
  · refine .inr ⟨a, rfl, hlt, fun j u hu => (World.cell?_of_block (hg.block _ ?_ ?_)).trans (hc j u hu)⟩
    · rw [add_block]; omega
    · rw [add_block]; intro e; have := hr _ e.symm; omega
theorem Row.at_ {w : World} {bd : Nat} {A : Option Addr} {xs : List Value} (h : Row w bd A xs) {k : Nat} (hk : k < xs.length) : ∃ a, A = some a ∧ a.block < bd ∧ w.cell? (a.add k) = some xs[k] := by
  rcases h with rfl | ⟨a, rfl, hlt, hc⟩
  · simp at hk
  · exact ⟨a, rfl, hlt, hc k _ (List.getElem?_eq_getElem hk)⟩
theorem Row.of_own {w : World} {base n c : Nat} {e : TypeId} {A : Option Addr} {xs : List Value} (h : w.ownsRow base e 1 (.slice A n c) n xs) : Row w w.heap.size A xs := by
  rcases h.2 with ⟨_, h0⟩ | ⟨g, cap, cur, hv, _, hh, _⟩
  · left
    have := h.1
    rw [h0] at this
    exact List.eq_nil_of_length_eq_zero (by simpa using this)
  · injection hv with hA _ _
    subst hA
    exact .inr ⟨_, rfl, (Array.getElem?_eq_some_iff.1 hh).1, h.cells (g := g) rfl⟩

def Ss (ss : List (List UInt8)) : List Value := ss.map fun s => Value.string (B s)
def Zs (zs : List Int) : List Value := zs.map (Value.int .i64)
theorem Ss_length (ss : List (List UInt8)) : (Ss ss).length = ss.length := by simp [Ss]
theorem Zs_length (zs : List Int) : (Zs zs).length = zs.length := by simp [Zs]
theorem Ss_get (ss : List (List UInt8)) (k : Nat) (h : k < (Ss ss).length) : (Ss ss)[k] = .string (B (ss[k]'(by simpa [Ss] using h))) := by simp [Ss]
theorem Zs_get (zs : List Int) (k : Nat) (h : k < (Zs zs).length) : (Zs zs)[k] = .int .i64 (zs[k]'(by simpa [Zs] using h)) := by simp [Zs]
theorem Row.str {w : World} {bd : Nat} {A : Option Addr} {ss : List (List UInt8)} (h : Row w bd A (Ss ss)) {k : Nat} (hk : k < ss.length) : ∃ a, A = some a ∧ a.block < bd ∧ w.cell? (a.add k) = some (.string (B ss[k])) := by
  obtain ⟨a, h1, h2, h3⟩ := h.at_ (k := k) (by rw [Ss_length]; exact hk)
  exact ⟨a, h1, h2, by rw [h3, Ss_get]⟩
theorem Row.num {w : World} {bd : Nat} {A : Option Addr} {zs : List Int} (h : Row w bd A (Zs zs)) {k : Nat} (hk : k < zs.length) : ∃ a, A = some a ∧ a.block < bd ∧ w.cell? (a.add k) = some (.int .i64 zs[k]) := by
  obtain ⟨a, h1, h2, h3⟩ := h.at_ (k := k) (by rw [Zs_length]; exact hk)
  exact ⟨a, h1, h2, by rw [h3, Zs_get]⟩

/-- 'string(b)' of a slice of the call's own. -/
theorem conv_own {w : World} {base : Nat} {v : Value} {l : List UInt8} (h : w.ownsRow base 5 1 v l.length (U l)) :
    (convert 58 9 v).run Try.prog w = .ok (.string (B l)) w := by
  rcases h.2 with ⟨rfl, h0⟩ | ⟨g, cap, cur, rfl, _⟩
  · obtain rfl : l = [] := List.eq_nil_of_length_eq_zero h0
    rw [run_convert_bytes_string w 58 9 5 none 0 0 Try.underlying58 Try.underlying5 Try.underlying9]
    rfl
  · exact run_convert_bytes_back w 58 9 5 ⟨g, 0, none⟩ cap l Try.underlying58 Try.underlying5 Try.underlying9 (fun j hj => h.cells (g := g) rfl j _ (by simp [U, hj]))
end Go.Proofs.Ytihanhdepijijaa.S2
