/-
  Layer 9 (disk): keptOf.
-/
import Derived.Test.YtihanhdepijijaaDiskFun
import Derived.Laws.CopyOwn
import Derived.Laws.Rows
namespace Go.Proofs.Ytihanhdepijijaa.S9
open Go.RowKit
namespace Dk
/-- The first eight values of k, as cells. -/
def KV (k : Nat → Int) : List Value := (List.range 8).map fun i => Value.int .i64 (k i)
theorem KV_len (k : Nat → Int) : (KV k).length = 8 := by simp [KV]
theorem KV_zero : KV (fun _ => 0) = [.int .i64 0, .int .i64 0, .int .i64 0, .int .i64 0, .int .i64 0, .int .i64 0, .int .i64 0, .int .i64 0] := rfl
theorem KV_get (k : Nat → Int) {i : Nat} (h : i < 8) : (KV k)[i]? = some (.int .i64 (k i)) := by simp [KV, h]
theorem KV_one (k : Nat → Int) : (KV k).all (·.oneCell') = true := by
  refine List.all_eq_true.2 fun v hv => ?_
  obtain ⟨i, _, rfl⟩ := List.mem_map.1 hv
  rfl
theorem splice_kof (zs : List Int) : splice (KV fun _ => 0) 0 ((S2.Zs zs).take 8) = KV (kof zs) := by
  apply List.ext_getElem?
  intro i
  simp only [splice, List.take_zero, List.nil_append, Nat.zero_add, List.length_take, S2.Zs_length]
  by_cases hi : i < 8
  · rw [KV_get _ hi]
    by_cases h2 : i < zs.length
    · rw [List.getElem?_append_left (by simp [S2.Zs_length]; omega), List.getElem?_take, if_pos hi]
      simp [S2.Zs, kof, h2]
    · have e : min 8 zs.length = zs.length := by omega
      rw [List.getElem?_append_right (by simp [S2.Zs_length]; omega), List.length_take, S2.Zs_length, e, List.getElem?_drop, show zs.length + (i - zs.length) = i by omega, KV_get _ hi]
      simp [kof, List.getD_eq_getElem?_getD, List.getElem?_eq_none (Nat.le_of_not_lt h2)]
  · have : (KV (kof zs))[i]? = none := List.getElem?_eq_none (by rw [KV_len]; omega)
    rw [this]
    apply List.getElem?_eq_none
    rw [List.length_append, List.length_take, List.length_drop, KV_len, S2.Zs_length]
    omega
theorem infoKept (k : Nat → Int) : (Try.prog.info? 63).map (·.size) = some (KV k).toArray.size := by
  rw [List.size_toArray, KV_len]
  kernel_rfl
theorem infoInt1 : (Try.prog.info? 3).map (·.size) = some 1 := by kernel_rfl
theorem Zs_one (zs : List Int) : ∀ v ∈ S2.Zs zs, v.oneCell' = true := by
  intro v hv
  obtain ⟨z, _, rfl⟩ := List.mem_map.1 hv
  rfl

theorem wpList_store_row {P : Program} {ops : Array Oper} {rest : List Oper} {o : Oper} {a : Act} {w : World} {Q : Exit → Act → World → Prop} (hgd : o.guard = none) (ty : TypeId) (x y : Operand) (ho : o.op = .store ty x y)
    (g : Nat) (cells : Array Value) (hx : a.eval x = .pointer (some ⟨g, 0, none⟩)) (hy : a.eval y = .agg cells)
    (t : TypeId) (old : Array Value) (hg : w.heap[g]? = some (.cells old t (0, 0))) (hi : (P.info? ty).map (·.size) = some cells.size)
    (hold : old.size = cells.size) (h1 : cells.all (·.oneCell') = true)
    (h : wpList P ops Q rest (a.put o.dst undef) (w.setRow g cells)) : wpList P ops Q (o :: rest) a w :=
  wpList_plain hgd fun _ hK => wp_store_row ty x y ho g cells hx hy t old hg hi hold h1 (hK _ _ h)

set_option maxHeartbeats 1000000 in
set_option maxRecDepth 100000 in
theorem keptOf_any (zs : List Int) (A : Option Addr) (n c : Nat) (hn : n = zs.length) (w : World) (hr : S2.Row w w.heap.size A (S2.Zs zs)) :
    Calls Try.prog 36 #[.slice A n c] w fun e w' => e = .returned (.agg (KV (kof zs)).toArray) ∧ Below w.heap.size w w' := by
  obtain ⟨Z, hZ⟩ : ∃ Z, Z = (KV fun _ => 0).toArray := ⟨_, rfl⟩
  have hZs : Z.size = 8 := by rw [hZ, List.size_toArray, KV_len]
  have hb1 : Below w.heap.size w (w.alloc (.cells Z 63)) := (Below.refl _ _).alloc (Nat.le_refl _) _
  have hb2 : Below w.heap.size w ((w.alloc (.cells Z 63)).alloc (.cells Z 63)) := hb1.alloc (by simp) _
  have h2 : ((w.alloc (.cells Z 63)).alloc (.cells Z 63)).heap[w.heap.size + 1]? = some (.cells Z 63 (0, 0)) := by
    have := heap_alloc_new (w.alloc (.cells Z 63)) (.cells Z 63)
    simpa using this
  have h1 : ((w.alloc (.cells Z 63)).alloc (.cells Z 63)).heap[w.heap.size]? = some (.cells Z 63 (0, 0)) := by
    rw [Below.heap_alloc _ _ _ (by simp), heap_alloc_new]
  have hsrc : 0 < ((S2.Zs zs).take 8).length → (some ⟨w.heap.size + 1, 0, none⟩ : Option Addr) = some ⟨w.heap.size + 1, 0, none⟩ ∧ ∃ ad, A = some ad ∧ ∀ j v, ((S2.Zs zs).take 8)[j]? = some v → ((w.alloc (.cells Z 63)).alloc (.cells Z 63)).cell? (ad.add j) = some v := by
    intro h0
    refine ⟨rfl, ?_⟩
    rcases hr.below hb2 with h | ⟨a, ha, _, hc⟩
    · rw [h] at h0; simp at h0
    · refine ⟨a, ha, fun j v hv => hc j v ?_⟩
      rw [List.getElem?_take] at hv
      split at hv
      · exact hv
      · cases hv
  have hlen : ((S2.Zs zs).take 8).length = Nat.min n 8 := by rw [List.length_take, S2.Zs_length, hn, Nat.min_comm]
  have hfit : 0 + ((S2.Zs zs).take 8).length ≤ Z.toList.length := by rw [show Z.toList.length = 8 from hZs, hlen, Nat.zero_add]; exact Nat.min_le_right _ _
  have hsp : splice Z.toList 0 ((S2.Zs zs).take 8) = KV (kof zs) := by rw [hZ]; exact splice_kof zs
  have hone : ∀ v ∈ (S2.Zs zs).take 8, v.oneCell' = true := fun v hv => Zs_one zs v (List.mem_of_mem_take hv)
  obtain ⟨cs, hcs⟩ : ∃ cs, cs = (S2.Zs zs).take 8 := ⟨_, rfl⟩
  rw [← hcs] at hsrc hlen hfit hsp hone
  have H1 := Lib.hid h1
  have H2 := Lib.hid h2
  have HS := Lib.hid hsrc
  have HL := Lib.hid hlen
  have HF := Lib.hid hfit
  have HP := Lib.hid hsp
  have HO := Lib.hid hone
  have HB2 := Lib.hid hb2
  have HZ := Lib.hid hZs
  have hZ' : #[Value.int .i64 0, .int .i64 0, .int .i64 0, .int .i64 0, .int .i64 0, .int .i64 0, .int .i64 0, .int .i64 0] = Z := by rw [hZ]; rfl
  clear h1 h2 hsrc hlen hfit hsp hone hcs hn hr hZs hb1 hb2
  have HZ' := Lib.hid hZ'
  clear hZ hZ'
  go_enter Try.func36, Try.ntmps36
  go_wp2_with (rw [HZ'.out]; refine wpList_copy_splice rfl (.tmp 4) (.tmp 5) 23 23 rfl 3 Try.underlying23 infoInt1 (some ⟨w.heap.size + 1, 0, none⟩) A 8 8 n c rfl rfl (w.heap.size + 1) 0 Z.toList 63 (by rw [Array.toArray_toList]; exact H2.out) cs HL.out HS.out HF.out HO.out (w.heap.size + 1) _ (Below.refl _ _) (Nat.le_refl _) ?_)
  intro w4 hg4 hb4
  have hg5 : w4.heap[w.heap.size + 1]? = some (.cells (KV (kof zs)).toArray 63 (0, 0)) := by rw [← HP.out]; exact hg4.out
  have hg6 : w4.heap[w.heap.size]? = some (.cells Z 63 (0, 0)) := (hb4.block _ (by omega)).trans H1.out
  have hbb : Below w.heap.size w w4 := HB2.out.trans (hb4.mono (by omega))
  have G5 := Lib.hid hg5
  have G6 := Lib.hid hg6
  have HBB := Lib.hid hbb
  clear hg4 hg5 hg6 hbb hb4
  go_wp2_with (first | (refine wpList_load_row rfl 63 _ rfl (w.heap.size + 1) rfl 63 _ (0, 0) _ G5.out Try.underlying63 rfl (infoKept _) ?_) | (refine wpList_store_row rfl 63 _ _ rfl w.heap.size _ rfl rfl 63 _ G6.out (infoKept _) (by rw [HZ.out, List.size_toArray, KV_len]) (by simpa using KV_one (kof zs)) ?_))
  exact bodyPost_ret (v := .agg (KV (kof zs)).toArray) (results_cell_row Try.results36 _ _ w.heap.size 63 _ (0, 0) _ rfl (setRow_heap _ _ _ _ _ _ G6.out) Try.underlying63 rfl (infoKept _)) rfl
    ⟨rfl, HBB.out.trans ⟨rfl, rfl, rfl, by simp [World.setRow], fun k hk => setRow_other _ _ _ _ (by omega)⟩⟩
end Dk
end Go.Proofs.Ytihanhdepijijaa.S9
