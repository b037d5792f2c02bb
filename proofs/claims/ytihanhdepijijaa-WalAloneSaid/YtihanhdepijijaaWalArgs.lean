/-
  Layer 10: the laws' acts; their arguments that are slices and acts, opened.
-/
import Derived.Test.YtihanhdepijijaaWalRow
import Derived.Deep.Slices
import Derived.Deep.Strs
import Derived.OpenShut
import Derived.ChangeSame
import Derived.SliceStrings
import Derived.ChangeSlices
import Derived.ChangeArms
import Derived.SizedLaws
namespace Go.Proofs.Ytihanhdepijijaa
open Go.RowKit Go.ChangeShapes Go.WideShapes Go.Deep
namespace Wl
open S9.Dk (Dk Fr MD isI Rz)
/-! ### Acts -/
structure Ac where
  Do : Int
  S : Str
  A : Option Addr
  c : Nat
  L : List Str
  N : Int
  A' : Option Addr
  c' : Nat
  K : List Int
def Ac.cells (a : Ac) : List Value := [.int .i64 a.Do, .string (S2.B a.S), .slice a.A a.L.length a.c, .int .i64 a.N, .slice a.A' a.K.length a.c']
structure Ac.In (X : Nat → Prop) (w : World) (a : Ac) : Prop where
  rows : Rx X w a.A a.L
  rlen : a.L.length ≤ 281474976710656
  reach : ∀ s ∈ a.L, s.length ≤ 281474976710656
  row : Rz X w a.A' a.K
  kin : ∀ x ∈ a.K, isI x
  klen : a.K.length ≤ 281474976710656
  n : isI a.N
  d : isI a.Do
  slen : a.S.length ≤ 281474976710656
theorem Ac.In.fr {X : Nat → Prop} {w w' : World} {a : Ac} (h : a.In X w) (hf : Fr X w w') : a.In X w' := ⟨h.rows.fr hf, h.rlen, h.reach, h.row.fr hf, h.kin, h.klen, h.n, h.d, h.slen⟩
theorem Ac.In.mono {X Y : Nat → Prop} {w : World} {a : Ac} (h : a.In X w) (hXY : ∀ k, X k → Y k) : a.In Y w := ⟨h.rows.mono hXY, h.rlen, h.reach, h.row.mono hXY, h.kin, h.klen, h.n, h.d, h.slen⟩
/-- A list of acts that lies where nothing is to turn. -/
structure As (X : Nat → Prop) (w : World) (A : Option Addr) (l : List Ac) : Prop where
  row : l = [] ∨ ∃ ad, A = some ad ∧ X ad.block ∧ ∀ (i : Nat) (h : i < l.length) (j : Nat) (u : Value), l[i].cells[j]? = some u → w.cell? (ad.add (i * 5 + j)) = some u
  each : ∀ a ∈ l, a.In X w
theorem As.fr {X : Nat → Prop} {w w' : World} {A : Option Addr} {l : List Ac} (h : As X w A l) (hf : Fr X w w') : As X w' A l := by
  refine ⟨?_, fun a ha => (h.each a ha).fr hf⟩
  rcases h.row with h1 | ⟨ad, h1, h2, h3⟩
  · exact .inl h1
  · exact .inr ⟨ad, h1, h2, fun i hi j u hu => (hf.cell (p := ad.add (i * 5 + j)) (by rw [S2.add_block]; exact h2)).trans (h3 i hi j u hu)⟩
theorem As.mono {X Y : Nat → Prop} {w : World} {A : Option Addr} {l : List Ac} (h : As X w A l) (hXY : ∀ k, X k → Y k) : As Y w A l := by
  refine ⟨?_, fun a ha => (h.each a ha).mono hXY⟩
  rcases h.row with h1 | ⟨ad, h1, h2, h3⟩
  · exact .inl h1
  · exact .inr ⟨ad, h1, hXY _ h2, h3⟩
theorem As.at_ {X : Nat → Prop} {w : World} {A : Option Addr} {l : List Ac} (h : As X w A l) {i : Nat} (hi : i < l.length) : ∃ ad, A = some ad ∧ X ad.block ∧ ∀ (j : Nat) (u : Value), l[i].cells[j]? = some u → w.cell? ((ad.add (i * 5)).add j) = some u := by
  rcases h.row with h1 | ⟨ad, h1, h2, h3⟩
  · subst h1; cases hi
  · exact ⟨ad, h1, h2, fun j u hu => by rw [Go.Deep.add_add]; exact h3 i hi j u hu⟩

/-! ### Opened -/
variable {H : Type} {enc : TypeId × Value → H} {w : World}
theorem cells_int : Try.prog.cellsOf 3 = 1 := by kernel_rfl
theorem cells_str : Try.prog.cellsOf 9 = 1 := by kernel_rfl
theorem cells_ints : Try.prog.cellsOf 23 = 1 := by kernel_rfl
theorem cells_strs : Try.prog.cellsOf 32 = 1 := by kernel_rfl
theorem cells_act : Try.prog.cellsOf 36 = 5 := by kernel_rfl
theorem bytes_int : Try.prog.bytesOf 3 = 8 := by kernel_rfl
theorem bytes_str : Try.prog.bytesOf 9 = 16 := by kernel_rfl
theorem weights_mem_all {P : Program} {e : TypeId} : ∀ {ds : List (DataW H)} {d : DataW H}, d ∈ ds → ∀ n ∈ d.weights P e, n ∈ DataW.weightsAll P e ds
  | d0 :: ds, d, hd, n, hn => by
    unfold DataW.weightsAll
    rcases List.mem_cons.1 hd with rfl | hd
    · exact List.mem_append_left _ hn
    · exact List.mem_append_right _ (weights_mem_all hd n hn)
theorem list_of {α : Type} {P : Nat → α → Prop} : ∀ n, (∀ i, i < n → ∃ v, P i v) → ∃ vs : List α, vs.length = n ∧ ∀ (i : Nat) (h : i < vs.length), P i vs[i]
  | 0, _ => ⟨[], rfl, fun i h => absurd h (by simp)⟩
  | n + 1, h => by
    obtain ⟨vs, hl, hp⟩ := list_of n (fun i hi => h i (by omega))
    obtain ⟨v, hv⟩ := h n (by omega)
    refine ⟨vs ++ [v], by simp [hl], fun i hi => ?_⟩
    rw [List.length_append, List.length_singleton] at hi
    rcases Nat.lt_or_ge i vs.length with h1 | h1
    · rw [List.getElem_append_left h1]; exact hp i h1
    · have e : i = vs.length := by omega
      subst e
      rw [List.getElem_append_right (Nat.le_refl _)]
      simp only [Nat.sub_self, List.getElem_singleton]
      rw [hl]
      exact hv
theorem str_cell {fuel : Nat} {cs : List Value} {x : DataW H × List MemPlace} (h : DataW.trod enc Try.prog w 0 (fun _ => true) true fuel 9 cs = some x) (hz : ∀ n ∈ x.1.weights Try.prog 9, n ≤ reachBytes) :
    ∃ a : Str, cs = [.string (S2.B a)] ∧ a.length ≤ 140737488355328 := by
  obtain ⟨s, rfl, rfl, _⟩ := DataW.trod_string Try.underlying9 h
  have h1 := hz s.data.toList.length (by simp [DataW.weights])
  have h2 := reachBytes_lt
  exact ⟨s.data.toList, rfl, by omega⟩
theorem int_cell {fuel : Nat} {cs : List Value} {x : DataW H × List MemPlace} (h : DataW.trod enc Try.prog w 0 (fun _ => true) true fuel 3 cs = some x) :
    ∃ a : Int, cs = [.int .i64 a] ∧ isI a := by
  obtain ⟨z, rfl, rfl, hz⟩ := DataW.trod_int Try.underlying3 h
  exact ⟨z, rfl, bounds_i64 hz⟩
theorem open_ints_ {fuel : Nat} {v : Value} {x : DataW H × List MemPlace} (h : DataW.trod enc Try.prog w 0 (fun _ => true) true fuel 23 [v] = some x) (hz : ∀ n ∈ x.1.weights Try.prog 23, n ≤ reachBytes) :
    ∃ (A : Option Addr) (cap : Nat) (zs : List Int), v = .slice A zs.length cap ∧ Rz (fun k => k < w.heap.size) w A zs ∧ zs.length ≤ 140737488355328 ∧ (∀ z ∈ zs, isI z) := by
  rcases open_slice Try.underlying23 h with ⟨hc, _⟩ | ⟨a, len, cap, m, n, D, Pl, hc, _, hl, hm, hmm, hx, hi⟩
  · injection hc with hc _
    exact ⟨none, 0, [], hc, .inl rfl, by decide, fun z hz => by cases hz⟩
  · injection hc with hc _
    simp only [if_true] at hmm
    rw [cells_int] at hi
    obtain ⟨l, hlen, hp⟩ := list_of (P := fun i (p : Int) => w.cell? (a.add i) = some (.int .i64 p) ∧ isI p) len (fun i hil => by
      obtain ⟨cs', hcs, ht⟩ := hi i (by omega)
      obtain ⟨z, e, _, wz⟩ := DataW.trod_int Try.underlying3 ht
      obtain ⟨_, hcl, hat⟩ := World.cells?_some hcs
      refine ⟨z, ?_, bounds_i64 wz⟩
      have h1 := hat 0 (by omega)
      rw [Go.Deep.add_add, Nat.add_zero, Nat.mul_one] at h1
      rw [h1, e]
      rfl)
    have hsz : len ≤ 140737488355328 := by
      have h1 := hz ((((List.range len).map D).length + ((List.range (m - len)).map fun j => D (len + j)).length) * Try.prog.bytesOf 3) (by
        rw [hx]
        unfold DataW.weights
        rw [Try.underlying23]
        exact List.mem_cons_self)
      rw [bytes_int] at h1
      have h2 := reachBytes_lt
      simp at h1
      omega
    refine ⟨some a, cap, l, by rw [hlen]; exact hc, ?_, by omega, fun z hzm => ?_⟩
    · rcases Nat.eq_zero_or_pos len with h0 | h0
      · left
        rw [List.eq_nil_of_length_eq_zero (by omega : l.length = 0)]
        rfl
      · refine .inr ⟨a, rfl, ?_, fun j u hu => ?_⟩
        · have h1 := (hp 0 (by omega)).1
          have := World.block_lt_of_cell? w _ h1
          rw [S2.add_block] at this
          exact this
        · have hj : j < l.length := by
            have := (List.getElem?_eq_some_iff.1 hu).1
            simpa [S2.Zs] using this
          rw [(hp j hj).1, ← hu]
          simp [S2.Zs, List.getElem?_eq_getElem hj]
    · obtain ⟨i, hi2, rfl⟩ := List.mem_iff_getElem.1 hzm
      exact (hp i hi2).2
theorem open_strs_ {fuel : Nat} {v : Value} {x : DataW H × List MemPlace} (h : DataW.trod enc Try.prog w 0 (fun _ => true) true fuel 32 [v] = some x) (hz : ∀ n ∈ x.1.weights Try.prog 32, n ≤ reachBytes) :
    ∃ (A : Option Addr) (cap : Nat) (l : List Str), v = .slice A l.length cap ∧ Rx (fun k => k < w.heap.size) w A l ∧ l.length ≤ 140737488355328 ∧ (∀ s ∈ l, s.length ≤ 281474976710656) := by
  rcases open_strs Try.underlying32 Try.underlying9 cells_str h with ⟨hc, _⟩ | ⟨a, len, cap, m, Sx, hc, _, hl, hm, hmm, hx, hi⟩
  · injection hc with hc _
    exact ⟨none, 0, [], hc, .inl rfl, by decide, fun s hs => by simp at hs⟩
  · injection hc with hc _
    simp only [if_true] at hmm
    obtain ⟨l, hlen, hp⟩ := list_of (P := fun i (s : Str) => w.cell? (a.add i) = some (.string (S2.B s)) ∧ s.length ≤ 281474976710656) len (fun i hil => by
      refine ⟨(Sx i).data.toList, (hi i (by omega)).1, ?_⟩
      have h1 := hz ((Sx i).data.toList.length) (by
        rw [hx]
        unfold DataW.weights
        rw [Try.underlying32]
        refine List.mem_cons_of_mem _ (List.mem_append_left _ ?_)
        exact weights_mem_all (d := .lit (.string (Sx i).data.toList)) (List.mem_map.2 ⟨i, by simp; omega, rfl⟩) _ (by unfold DataW.weights; simp))
      have h2 := reachBytes_lt
      omega)
    have hsz : len ≤ 140737488355328 := by
      have h1 := hz ((((List.range len).map fun i => DataW.lit (.string (Sx i).data.toList)).length + ((List.range (m - len)).map fun j => (DataW.lit (.string (Sx (len + j)).data.toList) : DataW H)).length) * Try.prog.bytesOf 9) (by
        rw [hx]
        unfold DataW.weights
        rw [Try.underlying32]
        exact List.mem_cons_self)
      rw [bytes_str] at h1
      have h2 := reachBytes_lt
      simp at h1
      omega
    refine ⟨some a, cap, l, by rw [hlen]; exact hc, ?_, by omega, fun s hs => ?_⟩
    · rcases Nat.eq_zero_or_pos len with h0 | h0
      · exact .inl (by rw [List.eq_nil_of_length_eq_zero (by omega : l.length = 0)]; rfl)
      · refine .inr ⟨a, rfl, ?_, fun j u hu => ?_⟩
        rotate_left
        · have hj : j < l.length := by
            have := (List.getElem?_eq_some_iff.1 hu).1
            simpa [S2.Ss] using this
          rw [(hp j hj).1, ← hu]
          simp [S2.Ss, List.getElem?_eq_getElem hj]
        have h1 := (hp 0 (by omega)).1
        have := World.block_lt_of_cell? w _ h1
        rw [S2.add_block] at this
        exact this
    · obtain ⟨i, hi2, rfl⟩ := List.mem_iff_getElem.1 hs
      exact (hp i hi2).2
set_option maxRecDepth 100000 in
theorem open_act {fuel : Nat} {cs : List Value} {x : DataW H × List MemPlace} (h : DataW.trod enc Try.prog w 0 (fun _ => true) true fuel 36 cs = some x) (hz : ∀ n ∈ x.1.weights Try.prog 36, n ≤ reachBytes) :
    ∃ a : Ac, cs = a.cells ∧ a.In (fun k => k < w.heap.size) w := by
  obtain ⟨xs, n, rfl, rfl, hlen, hxl, hg⟩ := DataW.trod_struct Try.underlying36 h
  rw [cells_act] at hlen
  have hxl' : xs.length = 5 := hxl
  match cs, hlen with
  | [c0, c1, c2, c3, c4], _ =>
    match xs, hxl' with
    | [x0, x1, x2, x3, x4], _ =>
      have hz' : ∀ n ∈ DataW.weightsEach Try.prog [3, 9, 32, 3, 23] [x0.1, x1.1, x2.1, x3.1, x4.1], n ≤ reachBytes := by
        intro n hn
        refine hz n ?_
        unfold DataW.weights
        rw [Try.underlying36]
        exact hn
      have g0 : DataW.trod enc Try.prog w 0 (fun _ => true) true n 3 [c0] = some x0 := by simpa [cells_int] using hg 0 _ rfl
      have g1 : DataW.trod enc Try.prog w 0 (fun _ => true) true n 9 [c1] = some x1 := by simpa [cells_str] using hg 1 _ rfl
      have g2 : DataW.trod enc Try.prog w 0 (fun _ => true) true n 32 [c2] = some x2 := by simpa [cells_strs] using hg 2 _ rfl
      have g3 : DataW.trod enc Try.prog w 0 (fun _ => true) true n 3 [c3] = some x3 := by simpa [cells_int] using hg 3 _ rfl
      have g4 : DataW.trod enc Try.prog w 0 (fun _ => true) true n 23 [c4] = some x4 := by simpa [cells_ints] using hg 4 _ rfl
      obtain ⟨a0, e0, p0⟩ := int_cell g0
      obtain ⟨a1, e1, p1⟩ := str_cell g1 (fun n hn => hz' n (DataW.weights_mem_each (j := 1) rfl rfl n hn))
      obtain ⟨A2, c2', ls, e2, r2, l2, q2⟩ := open_strs_ g2 (fun n hn => hz' n (DataW.weights_mem_each (j := 2) rfl rfl n hn))
      obtain ⟨a3, e3, p3⟩ := int_cell g3
      obtain ⟨A4, c4', ks, e4, r4, l4, q4⟩ := open_ints_ g4 (fun n hn => hz' n (DataW.weights_mem_each (j := 4) rfl rfl n hn))
      cases e0
      cases e1
      subst e2
      cases e3
      subst e4
      exact ⟨⟨a0, a1, A2, c2', ls, a3, A4, c4', ks⟩, rfl, ⟨r2, by simp only; omega, q2, r4, q4, by simp only; omega, p3, p0, by simp only; omega⟩⟩
set_option maxRecDepth 100000 in
theorem open_acts {fuel : Nat} {v : Value} {x : DataW H × List MemPlace} (h : DataW.trod enc Try.prog w 0 (fun _ => true) true fuel 22 [v] = some x) (hz : ∀ n ∈ x.1.weights Try.prog 22, n ≤ reachBytes) :
    ∃ (A : Option Addr) (cap : Nat) (l : List Ac), v = .slice A l.length cap ∧ As (fun k => k < w.heap.size) w A l ∧ l.length ≤ maxLen := by
  rcases open_slice Try.underlying22 h with ⟨hc, _⟩ | ⟨a, len, cap, m, n, D, Pl, hc, _, hl, hm, hmm, hx, hi⟩
  · injection hc with hc _
    exact ⟨none, 0, [], hc, ⟨.inl rfl, fun a ha => by cases ha⟩, Nat.zero_le _⟩
  · injection hc with hc _
    simp only [if_true] at hmm
    rw [cells_act] at hi
    obtain ⟨l, hlen, hp⟩ := list_of (P := fun i (b : Ac) => (∀ (j : Nat) (u : Value), b.cells[j]? = some u → w.cell? (a.add (i * 5 + j)) = some u) ∧ b.In (fun k => k < w.heap.size) w) len (fun i hil => by
      obtain ⟨cs', hcs, ht⟩ := hi i (by omega)
      obtain ⟨b, e, hin⟩ := open_act ht (fun n hn => hz n (by
        rw [hx]
        unfold DataW.weights
        rw [Try.underlying22]
        refine List.mem_cons_of_mem _ (List.mem_append_left _ ?_)
        exact weights_mem_all (List.mem_map.2 ⟨i, by simp; omega, rfl⟩) _ hn))
      obtain ⟨_, hcl, hat⟩ := World.cells?_some hcs
      refine ⟨b, fun j u hu => ?_, hin⟩
      have hj : j < 5 := by
        have := (List.getElem?_eq_some_iff.1 hu).1
        simpa [Ac.cells] using this
      have h1 := hat j hj
      rw [Go.Deep.add_add] at h1
      rw [h1, e]
      simpa using hu)
    refine ⟨some a, cap, l, by rw [hlen]; exact hc, ⟨?_, fun b hb => ?_⟩, by omega⟩
    · rcases Nat.eq_zero_or_pos len with h0 | h0
      · exact .inl (List.eq_nil_of_length_eq_zero (by omega))
      · refine .inr ⟨a, rfl, ?_, fun i hi2 j u hu => (hp i hi2).1 j u hu⟩
        have h1 := (hp 0 (by omega)).1 0 _ rfl
        have := World.block_lt_of_cell? w _ h1
        rw [S2.add_block] at this
        exact this
    · obtain ⟨i, hi2, rfl⟩ := List.mem_iff_getElem.1 hb
      exact (hp i hi2).2
end Wl
end Go.Proofs.Ytihanhdepijijaa
