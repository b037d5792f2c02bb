/-
  Layer 11: the laws' arguments that are slices of strings, opened.
-/
import Derived.Test.YtojbicpchjiplaaGreatDoorIdentApp
import Derived.Deep.Strs
import Derived.SliceStrings
import Derived.ChangeSlices
import Derived.ChangeArms
import Derived.SizedLaws
namespace Go.Proofs.YtojbicpchjiplaaGreatDoor.S11
open Go.RowKit Go.ChangeShapes Go.WideShapes Go.Deep
namespace Idt
variable {H : Type} {enc : TypeId × Value → H} {w : World}
/-- An argument that is a slice of strings. -/
structure Ls (w : World) (A : Option Addr) (l : List Str) (cap : Nat) : Prop where
  row : S2.Row w w.heap.size A (S2.Ss l)
  cap : l.length ≤ cap
  len : l.length ≤ 140737488355328
  each : ∀ s ∈ l, s.length ≤ 281474976710656
theorem cells_str : Tryz.prog.cellsOf 9 = 1 := by kernel_rfl
theorem bytes_str : Tryz.prog.bytesOf 9 = 16 := by kernel_rfl
theorem weights_mem_all {P : Program} {e : TypeId} : ∀ {ds : List (DataW H)} {d : DataW H}, d ∈ ds → ∀ n ∈ d.weights P e, n ∈ DataW.weightsAll P e ds
  | d0 :: ds, d, hd, n, hn => by
    unfold DataW.weightsAll
    rcases List.mem_cons.1 hd with rfl | hd
    · exact List.mem_append_left _ hn
    · exact List.mem_append_right _ (weights_mem_all hd n hn)
theorem open_list {fuel : Nat} {v : Value} {x : DataW H × List MemPlace} (h : DataW.trod enc Tryz.prog w 0 (fun _ => true) true fuel 22 [v] = some x) (hz : ∀ n ∈ x.1.weights Tryz.prog 22, n ≤ reachBytes) :
    ∃ (A : Option Addr) (cap : Nat) (l : List Str), v = .slice A l.length cap ∧ Ls w A l cap := by
  rcases open_strs Tryz.underlying22 Tryz.underlying9 cells_str h with ⟨hc, _⟩ | ⟨a, len, cap, m, Sx, hc, _, hl, hm, hmm, hx, hi⟩
  · injection hc with hc _
    exact ⟨none, 0, [], hc, .inl rfl, Nat.le_refl _, by decide, fun s hs => by simp at hs⟩
  · injection hc with hc _
    simp only [if_true] at hmm
    obtain ⟨l, hle⟩ : ∃ l : List Str, l = (List.range len).map fun i => (Sx i).data.toList := ⟨_, rfl⟩
    have hlen : l.length = len := by rw [hle]; simp
    have hget : ∀ i, i < len → l[i]? = some (Sx i).data.toList := fun i hil => by rw [hle]; simp [hil]
    have hsz : len ≤ 140737488355328 := by
      have h1 := hz ((((List.range len).map fun i => DataW.lit (.string (Sx i).data.toList)).length + ((List.range (m - len)).map fun j => (DataW.lit (.string (Sx (len + j)).data.toList) : DataW H)).length) * Tryz.prog.bytesOf 9) (by
        rw [hx]
        unfold DataW.weights
        rw [Tryz.underlying22]
        exact List.mem_cons_self)
      rw [bytes_str] at h1
      have h2 := reachBytes_lt
      simp at h1
      omega
    refine ⟨some a, cap, l, by rw [hlen]; exact hc, ?_, by omega, by omega, fun s hs => ?_⟩
    · rcases Nat.eq_zero_or_pos len with h0 | h0
      · left
        rw [List.eq_nil_of_length_eq_zero (by omega : l.length = 0)]
        rfl
      · refine .inr ⟨a, rfl, ?_, fun j u hu => ?_⟩
        · have h1 := (hi 0 (by omega)).1
          have := World.block_lt_of_cell? w _ h1
          rw [S2.add_block] at this
          exact this
        · have hj : j < l.length := by
            have := (List.getElem?_eq_some_iff.1 hu).1
            rwa [S2.Ss_length] at this
          rw [(hi j (by omega)).1, ← hu]
          unfold S2.Ss
          rw [List.getElem?_map, hget j (by omega)]
          rfl
    · obtain ⟨i, hil, rfl⟩ := List.mem_iff_getElem.1 hs
      have hg := hget i (by omega)
      rw [List.getElem?_eq_getElem hil] at hg
      injection hg with hg
      rw [hg]
      have h1 := hz ((Sx i).data.toList.length) (by
        rw [hx]
        unfold DataW.weights
        rw [Tryz.underlying22]
        refine List.mem_cons_of_mem _ (List.mem_append_left _ ?_)
        exact weights_mem_all (d := .lit (.string (Sx i).data.toList)) (List.mem_map.2 ⟨i, by simp; omega, rfl⟩) _ (by unfold DataW.weights; simp))
      have h2 := reachBytes_lt
      omega
end Idt
end Go.Proofs.YtojbicpchjiplaaGreatDoor.S11
