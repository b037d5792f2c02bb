/-
  Layer 7: the laws' arguments that are slices, opened.
-/
import Derived.Test.YtjpgadiobgbchaaDoorShareJoins
import Derived.Deep.Slices
import Derived.SliceStrings
import Derived.ChangeSlices
import Derived.ChangeArms
import Derived.SizedLaws
namespace Go.Proofs.YtjpgadiobgbchaaDoor
open Go.RowKit Go.ChangeShapes Go.WideShapes Go.Deep
namespace Sh
variable {H : Type} {enc : TypeId × Value → H} {w : World}
theorem cells_int : Tryd.prog.cellsOf 3 = 1 := by kernel_rfl
theorem cells_share : Tryd.prog.cellsOf 38 = 2 := by kernel_rfl
theorem bytes_int : Tryd.prog.bytesOf 3 = 8 := by kernel_rfl
theorem bytes_share : Tryd.prog.bytesOf 38 = 16 := by kernel_rfl
theorem int_at {n : Nat} {v : Value} {x : DataW H × List MemPlace} (h : DataW.trod enc Tryd.prog w 0 (fun _ => true) true n 3 [v] = some x) : ∃ a : Int, v = .int .i64 a := by
  obtain ⟨z, e, _, _⟩ := DataW.trod_int Tryd.underlying3 h
  injection e with e _
  exact ⟨z, e⟩
theorem share_at {n : Nat} {cs : List Value} {x : DataW H × List MemPlace} (h : DataW.trod enc Tryd.prog w 0 (fun _ => true) true n 38 cs = some x) : ∃ p : Int × Int, cs = [.int .i64 p.1, .int .i64 p.2] := by
  obtain ⟨xs, n, rfl, rfl, hlen, hxl, hg⟩ := DataW.trod_struct Tryd.underlying38 h
  rw [cells_share] at hlen
  have hxl' : xs.length = 2 := hxl
  match cs, hlen with
  | [c0, c1], _ =>
    match xs, hxl' with
    | [x0, x1], _ =>
      have g0 : DataW.trod enc Tryd.prog w 0 (fun _ => true) true n 3 [c0] = some x0 := by simpa [cells_int] using hg 0 _ rfl
      have g1 : DataW.trod enc Tryd.prog w 0 (fun _ => true) true n 3 [c1] = some x1 := by simpa [cells_int] using hg 1 _ rfl
      obtain ⟨a, rfl⟩ := int_at g0
      obtain ⟨b, rfl⟩ := int_at g1
      exact ⟨(a, b), rfl⟩
theorem list_of {P : Nat → Int × Int → Prop} : ∀ n, (∀ i, i < n → ∃ v, P i v) → ∃ vs : List (Int × Int), vs.length = n ∧ ∀ (i : Nat) (h : i < vs.length), P i vs[i]
  | 0, _ => ⟨[], rfl, fun i h => absurd h (by simp)⟩
  | n + 1, h => by
    obtain ⟨vs, hl, hp⟩ := list_of n (fun i hi => h i (by omega))
    obtain ⟨v, hv⟩ := h n (by omega)
    refine ⟨vs ++ [v], by simp [hl], fun i hi => ?_⟩
    rw [List.length_append, List.length_singleton] at hi
    rcases Nat.lt_or_ge i vs.length with h1 | h1
    · rw [List.getElem_append_left h1]; exact hp i h1
    · have e : i = vs.length := by omega
      subst e
      rw [List.getElem_append_right (Nat.le_refl _)]
      simp only [Nat.sub_self, List.getElem_singleton]
      rw [hl]
      exact hv
theorem Sc_all {Q : Nat → Value → Prop} : ∀ (l : List (Int × Int)), (∀ (i : Nat) (h : i < l.length), Q (i * 2) (.int .i64 l[i].1) ∧ Q (i * 2 + 1) (.int .i64 l[i].2)) → ∀ j u, (Sc l)[j]? = some u → Q j u := by
  intro l h j u hu
  have hj : j < l.length * 2 := by
    have := (List.getElem?_eq_some_iff.1 hu).1
    rw [Sc_len] at this
    exact this
  have hs := Sc_at l (j / 2) (by omega)
  have hq := h (j / 2) (by omega)
  rcases Nat.mod_two_eq_zero_or_one j with e | e
  · have ej : j / 2 * 2 = j := by omega
    rw [ej] at hs hq
    rw [hs.1] at hu
    cases hu
    exact hq.1
  · have ej : j / 2 * 2 + 1 = j := by omega
    rw [ej] at hs hq
    rw [hs.2] at hu
    cases hu
    exact hq.2
theorem open_shares {fuel : Nat} {v : Value} {x : DataW H × List MemPlace} (h : DataW.trod enc Tryd.prog w 0 (fun _ => true) true fuel 22 [v] = some x) (hz : ∀ n ∈ x.1.weights Tryd.prog 22, n ≤ reachBytes) :
    ∃ (A : Option Addr) (cap : Nat) (l : List (Int × Int)), v = .slice A l.length cap ∧ Rw w A l ∧ l.length ≤ cap ∧ l.length ≤ 140737488355328 ∧ (A = none → l = [] ∧ cap = 0) := by
  rcases open_slice Tryd.underlying22 h with ⟨hc, _⟩ | ⟨a, len, cap, m, n, D, Pl, hc, _, hl, hm, hmm, hx, hi⟩
  · injection hc with hc _
    exact ⟨none, 0, [], hc, Rw.nil _ _, Nat.le_refl _, by decide, fun _ => ⟨rfl, rfl⟩⟩
  · injection hc with hc _
    simp only [if_true] at hmm
    rw [cells_share] at hi
    obtain ⟨l, hlen, hp⟩ := list_of (P := fun i p => w.cell? (a.add (i * 2)) = some (.int .i64 p.1) ∧ w.cell? (a.add (i * 2 + 1)) = some (.int .i64 p.2)) len (fun i hil => by
      obtain ⟨cs', hcs, ht⟩ := hi i (by omega)
      obtain ⟨p, e⟩ := share_at ht
      obtain ⟨_, hcl, hat⟩ := World.cells?_some hcs
      refine ⟨p, ?_, ?_⟩
      · have h1 := hat 0 (by omega)
        rw [Go.Deep.add_add, Nat.add_zero] at h1
        rw [h1, e]
        rfl
      · have h1 := hat 1 (by omega)
        rw [Go.Deep.add_add] at h1
        rw [h1, e]
        rfl)
    have hsz : len ≤ 140737488355328 := by
      have h1 := hz ((((List.range len).map D).length + ((List.range (m - len)).map fun j => D (len + j)).length) * Tryd.prog.bytesOf 38) (by
        rw [hx]
        unfold DataW.weights
        rw [Tryd.underlying22]
        exact List.mem_cons_self)
      rw [bytes_share] at h1
      have h2 := reachBytes_lt
      simp at h1
      omega
    refine ⟨some a, cap, l, by rw [hlen]; exact hc, ⟨?_⟩, by omega, by omega, fun e => by cases e⟩
    rcases Nat.eq_zero_or_pos len with h0 | h0
    · left
      rw [List.eq_nil_of_length_eq_zero (by omega : l.length = 0)]
      rfl
    · refine .inr ⟨a, rfl, ?_, ?_⟩
      · have h1 := (hp 0 (by omega)).1
        have := World.block_lt_of_cell? w _ h1
        rw [S2.add_block] at this
        exact this
      · exact Sc_all (Q := fun j u => w.cell? (a.add j) = some u) l (fun i h => hp i h)
theorem open_ilist {fuel : Nat} {v : Value} {x : DataW H × List MemPlace} (h : DataW.trod enc Tryd.prog w 0 (fun _ => true) true fuel 31 [v] = some x) (hz : ∀ n ∈ x.1.weights Tryd.prog 31, n ≤ reachBytes) :
    ∃ (A : Option Addr) (cap : Nat) (zs : List Int), v = .slice A zs.length cap ∧ Ri w A zs ∧ zs.length ≤ cap ∧ zs.length ≤ 140737488355328 ∧ (∀ z ∈ zs, S4.isI64 z) := by
  rcases open_slice Tryd.underlying31 h with ⟨hc, _⟩ | ⟨a, len, cap, m, n, D, Pl, hc, _, hl, hm, hmm, hx, hi⟩
  · injection hc with hc _
    exact ⟨none, 0, [], hc, ⟨.inl rfl⟩, Nat.le_refl _, by decide, fun z hz => by cases hz⟩
  · injection hc with hc _
    simp only [if_true] at hmm
    rw [cells_int] at hi
    obtain ⟨l, hlen, hp⟩ := list_of (P := fun i p => w.cell? (a.add i) = some (.int .i64 p.1) ∧ S4.isI64 p.1) len (fun i hil => by
      obtain ⟨cs', hcs, ht⟩ := hi i (by omega)
      obtain ⟨z, e, _, wz⟩ := DataW.trod_int Tryd.underlying3 ht
      obtain ⟨_, hcl, hat⟩ := World.cells?_some hcs
      refine ⟨(z, 0), ?_, bounds_i64 wz⟩
      have h1 := hat 0 (by omega)
      rw [Go.Deep.add_add, Nat.add_zero, Nat.mul_one] at h1
      rw [h1, e]
      rfl)
    have hsz : len ≤ 140737488355328 := by
      have h1 := hz ((((List.range len).map D).length + ((List.range (m - len)).map fun j => D (len + j)).length) * Tryd.prog.bytesOf 3) (by
        rw [hx]
        unfold DataW.weights
        rw [Tryd.underlying31]
        exact List.mem_cons_self)
      rw [bytes_int] at h1
      have h2 := reachBytes_lt
      simp at h1
      omega
    have hlm : (l.map (·.1)).length = len := by rw [List.length_map, hlen]
    refine ⟨some a, cap, l.map (·.1), by rw [hlm]; exact hc, ⟨?_⟩, by omega, by omega, fun z hzm => ?_⟩
    · rcases Nat.eq_zero_or_pos len with h0 | h0
      · left
        rw [List.eq_nil_of_length_eq_zero (by omega : l.length = 0)]
        rfl
      · refine .inr ⟨a, rfl, ?_, fun j u hu => ?_⟩
        · have h1 := (hp 0 (by omega)).1
          have := World.block_lt_of_cell? w _ h1
          rw [S2.add_block] at this
          exact this
        · have hj : j < l.length := by
            have := (List.getElem?_eq_some_iff.1 hu).1
            simpa [S2.Zs] using this
          rw [(hp j hj).1, ← hu]
          simp [S2.Zs, List.getElem?_eq_getElem hj]
    · obtain ⟨p, hpm, rfl⟩ := List.mem_map.1 hzm
      obtain ⟨i, hi2, rfl⟩ := List.mem_iff_getElem.1 hpm
      exact (hp i hi2).2
end Sh
end Go.Proofs.YtjpgadiobgbchaaDoor
