/-
  Layer 7: the landed package's map of the Xs that were keysOn: a map of bools that the call makes.
-/
import Derived.Test.YtjpgadiobgbchaaDoorShareRow
import Derived.Maps.OwnOps
import Derived.Maps.Views
namespace Go.Proofs.YtjpgadiobgbchaaDoor
open Go.RowKit Go.Maps
namespace Sh

theorem elem_bool_inv {H : Type} {P : Program} {e : TypeId} (he : P.underlying e = some .bool) {v : Value} {z : DataW H × List MemPlace} (h : plainElem P e v = some z) : ∃ c : Bool, v = .bool c ∧ z = (.lit (.bool c), []) := by
  unfold plainElem at h
  rw [he] at h
  cases v <;> simp at h
  exact ⟨_, rfl, h.symm⟩
/-- The run of 'm[k]' at elements that are bools. -/
theorem run_lookup_bool {H : Type} {P : Program} {w : World} {t k e : TypeId} (K : Keyed P k) (ht : P.underlying t = some (.map k e)) (he : P.underlying e = some .bool) (hz : (zeroValue e).run P w = .ok (.bool false) w) {b n : Nat} {D : DataW H}
    (hown : w.ownsMap P k (plainElem P e) b n D) {key : Value} {kl : Lit} (hkey : keyOf P k key = some kl) {c : Bool} (hc : D.atKey kl (.lit (.bool false)) = .lit (.bool c)) :
    (Instr.lookup t (.map (some b)) key false).run P w = .ok (.bool c) w := by
  obtain ⟨v, ps, hrun, hv⟩ := hown.lookup K ht hz (plainElem_bool he false) hkey
  obtain ⟨c', rfl, h2⟩ := elem_bool_inv he hv
  simp only [Prod.mk.injEq] at h2
  rw [hc] at h2
  have h3 : c = c' := by simpa using h2.1
  rw [h3]
  exact hrun

theorem atKey_fold {H : Type} (u z : DataW H) (k : Lit) : ∀ (acc : List Lit) (m : DataW H), IsMap m → (∀ x ∈ acc, WideAt.IsKeyLit x) → (acc.foldl (fun m x => m.put x u) m).atKey k z = if acc.any (fun x => x.sameKey k) then u else m.atKey k z
  | [], m, _, _ => by simp
  | x :: r, m, hm, h => by
    rw [List.foldl_cons, atKey_fold u z k r (m.put x u) (hm.put x u) (fun y hy => h y (by simp [hy])), List.any_cons]
    by_cases e : k = x
    · subst e
      rw [atKey_put_same hm (h k (by simp)), WideAt.sameKey_self (h k (by simp))]
      simp
    · rw [atKey_put_other e, sameKey_ne (fun e' => e e'.symm)]
      simp
/-- The map in which the keys xs are true. -/
def keysOn (xs : List Int) : DataW Unit := setOf (.lit (.bool true)) (xs.map (Lit.int .i64))
theorem keysOn_nil : keysOn [] = .map [] := rfl
theorem keysOn_snoc (xs : List Int) (x : Int) : keysOn (xs ++ [x]) = (keysOn xs).put (.int .i64 x) (.lit (.bool true)) := by
  unfold keysOn
  rw [List.map_append]
  exact setOf_snoc _ _ _
theorem keysOn_at (xs : List Int) (x : Int) : (keysOn xs).atKey (.int .i64 x) (.lit (.bool false)) = .lit (.bool (decide (x ∈ xs))) := by
  unfold keysOn setOf
  rw [atKey_fold _ _ _ _ _ isMap_empty (fun y hy => by obtain ⟨a, _, rfl⟩ := List.mem_map.1 hy; trivial)]
  have e : ((xs.map (Lit.int .i64)).any fun y => y.sameKey (.int .i64 x)) = decide (x ∈ xs) := by
    rw [List.any_map, Bool.eq_iff_iff, List.any_eq_true]
    constructor
    · rintro ⟨y, hy, h⟩
      simp [Lit.sameKey] at h
      subst h
      simpa using hy
    · intro h
      exact ⟨x, by simpa using h, by simp [Lit.sameKey]⟩
  rw [e]
  by_cases h : x ∈ xs
  · simp [h]
  · simp [h, DataW.atKey]
theorem mapLaw : Keyed Tryd.prog 3 := int_keyed Tryd.underlying3
theorem zeroBool (w : World) : (zeroValue 4).run Tryd.prog w = .ok (.bool false) w := by kernel_rfl
/-- Block b is a map of at most n entries in which the keys xs are true. -/
structure Mp (w : World) (b n : Nat) (xs : List Int) : Prop where
  own : w.ownsMap Tryd.prog 3 (plainElem Tryd.prog 4) b n (keysOn xs)
theorem Mp.made (w : World) : Mp (w.alloc (.map #[] 0)) w.heap.size 0 [] := ⟨World.ownsMap_made _ _ _ _⟩
theorem Mp.alloc {w : World} {b n : Nat} {xs : List Int} (h : Mp w b n xs) (o : Obj) : Mp (w.alloc o) b n xs := ⟨h.own.alloc o⟩
theorem Mp.lt {w : World} {b n : Nat} {xs : List Int} (h : Mp w b n xs) : b < w.heap.size := h.own.lt
theorem key_in {x : Int} (h : S4.isI64 x) : keyOf Tryd.prog 3 (.int .i64 x) = some (.int .i64 x) := keyOf_int_mk Tryd.underlying3 (WalkArith.wf_i64 h)
theorem Mp.look {w : World} {b n : Nat} {xs : List Int} (h : Mp w b n xs) {x : Int} (hx : S4.isI64 x) : (Instr.lookup 57 (.map (some b)) (.int .i64 x) false).run Tryd.prog w = .ok (.bool (decide (x ∈ xs))) w :=
  run_lookup_bool mapLaw Tryd.underlying57 Tryd.underlying4 (zeroBool w) h.own (key_in hx) (keysOn_at xs x)
end Sh
end Go.Proofs.YtjpgadiobgbchaaDoor
