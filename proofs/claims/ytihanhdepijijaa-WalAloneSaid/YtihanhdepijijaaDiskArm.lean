/-
  Layer 9 (disk): interrupted, Crash, Arm.
-/
import Derived.Test.YtihanhdepijijaaDiskCrash
namespace Go.Proofs.Ytihanhdepijijaa.S9
open Go.RowKit
namespace Dk
def aggD : TypeDesc → Bool
  | .struct _ => true
  | .array _ _ => true
  | _ => false
/-- A run of cells read as one value. -/
theorem run_loadVar_part {P : Program} (w : World) (a : Addr) (ty : TypeId) (cs : List Value) (d : TypeDesc) (hc : ∀ j v, cs[j]? = some v → w.cell? (a.add j) = some v)
    (hu : P.underlying ty = some d) (hd : aggD d = true) (hi : (P.info? ty).map (·.size) = some cs.length) :
    (loadVar ty a).run P w = .ok (.agg cs.toArray) w := by
  have hl := run_loadCells_list (P := P) w a cs hc
  cases hq : P.info? ty with
  | none => simp [hq] at hi
  | some i =>
    have hs : i.size = cs.length := by simpa [hq] using hi
    have hagg : (isAgg ty).run P w = .ok true w := by
      unfold isAgg
      rw [Sem.run_bind, run_underlying hu w]
      cases d <;> simp_all [aggD]
    simp [loadVar, Sem.run_bind, hagg, sizeOf, typeInfo, hq, hs, hl]
theorem wpList_load_part {P : Program} {ops : Array Oper} {rest : List Oper} {o : Oper} {a : Act} {w : World} {Q : Exit → Act → World → Prop} (hgd : o.guard = none) (ty : TypeId) (x : Operand) (ho : o.op = .load ty x)
    (ad : Addr) (hx : a.eval x = .pointer (some ad)) (cs : List Value) (d : TypeDesc) (hc : ∀ j v, cs[j]? = some v → w.cell? (ad.add j) = some v)
    (hu : P.underlying ty = some d) (hd : aggD d = true) (hi : (P.info? ty).map (·.size) = some cs.length)
    (h : wpList P ops Q rest (a.put o.dst (.agg cs.toArray)) w) : wpList P ops Q (o :: rest) a w :=
  wpList_plain hgd fun _ hK => by
    unfold Oper.wp execOp
    simp only [ho, hx, Instr.loadAt, Instr.sureAddr, Sem.run_bind, Sem.run_pure, Result.andThen_ok, run_loadVar_part w ad ty cs d hc hu hd hi]
    exact hK _ _ h
theorem Dv.keeps {X : Nat → Prop} {w : World} {p : Nat} {D : MD} {vs : Nat → Value} (h : Dv X w p D vs) : ∀ j v, (KV D.keep)[j]? = some v → w.cell? ((⟨p, 19, none⟩ : Addr).add j) = some v := by
  intro j v hv
  have hj : j < 8 := by
    have := (List.getElem?_eq_some_iff.1 hv).1
    rwa [KV_len] at this
  rw [KV_get _ hj] at hv
  rw [Addr.add_lit, h.c_keep hj]
  exact hv

set_option maxHeartbeats 1000000 in
set_option maxRecDepth 100000 in
theorem interrupted_any (X : Nat → Prop) (p : Nat) (D : MD) (w : World) (h : Dk X w p D) :
    Calls Try.prog 38 #[ptr p] w fun e w' => e = .returned (.bool D.hit) ∧ Dk X w' p D.tick ∧ Fr X w w' := by
  have h0 := h.ok
  have H := Lib.hid h
  obtain ⟨_, vs, hv⟩ := h
  have c1 := hv.c_down
  have c2 := hv.c_calls
  have f2 := hv.free 18
  have hcr := h0.calls
  have H0 := Lib.hid h0
  have HV := Lib.hid hv
  clear h0 hv
  cases hd : D.down with
  | true =>
    rw [hd] at c1
    have R := Lib.hid (show D.hit = false ∧ D.tick = D from ⟨by unfold MD.hit; rw [hd]; rfl, by unfold MD.tick; rw [if_pos (.inl hd)]⟩)
    clear hd
    go_enter Try.func38, Try.ntmps38
    go_wp2
    go_ret
    exact ⟨by rw [R.out.1]; rfl, by rw [R.out.2]; exact H.out, Fr.refl _ _⟩
  | false =>
    rw [hd] at c1
    by_cases h1 : D.calls = 0
    · have R := Lib.hid (show D.hit = false ∧ D.tick = D from ⟨by unfold MD.hit; rw [hd, h1]; rfl, by unfold MD.tick; rw [if_pos (.inr h1)]⟩)
      rw [h1] at c2
      clear hd h1 hcr
      go_enter Try.func38, Try.ntmps38
      go_wp2
      go_ret
      exact ⟨by rw [R.out.1]; rfl, by rw [R.out.2]; exact H.out, Fr.refl _ _⟩
    · have hne : (D.calls == 0) = false := by simpa using h1
      have S1 := Lib.hid (HV.out.set_calls (D.calls - 1))
      have F1 := Lib.hid (((Fr.refl X w).set ⟨p, 18, none⟩ (.int .i64 (D.calls - 1)) HV.out.pX))
      by_cases h2 : D.calls = 1
      · have R := Lib.hid (show D.hit = true ∧ D.tick = D.crash D.keep from ⟨by unfold MD.hit; rw [hd, h2]; rfl, by unfold MD.tick; rw [if_neg (by simp [hd, h2]), if_pos h2]⟩)
        have K := Lib.hid (fun w => crash_any X p { D with calls := D.calls - 1 } D.keep (fun i hi => H0.out.keep i hi) w)
        have O1 := Lib.hid (show ({ D with calls := D.calls - 1 } : MD).Ok from ⟨H0.out.dur, H0.out.len, H0.out.lost, by simp only; omega, H0.out.keep⟩)
        rw [h2] at c2 S1 F1 K O1
        clear hd h1 h2 hcr hne
        go_enter Try.func38, Try.ntmps38
        go_wp2_with (refine wpList_load_part rfl 63 _ rfl ⟨p, 19, none⟩ rfl (KV D.keep) _ S1.out.keeps Try.underlying63 rfl (by rw [KV_len]; kernel_rfl) ?_)
        go_wp2_with fail
        refine (K.out _ ⟨O1.out, _, S1.out⟩).mono ?_
        rintro e w1 ⟨rfl, h3, h4⟩
        have H3 := Lib.hid h3
        have H4 := Lib.hid (F1.out.trans h4)
        clear h3 h4
        go_wp2
        go_ret
        exact ⟨by rw [R.out.1]; rfl, by rw [R.out.2]; exact H3.out, H4.out⟩
      · have hgt : (0 : Int) < D.calls - 1 := by omega
        have R := Lib.hid (show D.hit = false ∧ D.tick = { D with calls := D.calls - 1 } from ⟨by unfold MD.hit; rw [hd]; simp [h2], by unfold MD.tick; rw [if_neg (by simp [hd, h1]), if_neg h2]⟩)
        have O1 := Lib.hid (show ({ D with calls := D.calls - 1 } : MD).Ok from ⟨H0.out.dur, H0.out.len, H0.out.lost, by simp only; omega, H0.out.keep⟩)
        clear hd h1 h2
        go_enter Try.func38, Try.ntmps38
        go_wp2
        go_ret
        exact ⟨by rw [R.out.1]; rfl, by rw [R.out.2]; exact ⟨O1.out, _, S1.out⟩, F1.out⟩

/-- A slice of ints that lies where nothing is to turn. -/
def Rz (X : Nat → Prop) (w : World) (A : Option Addr) (zs : List Int) : Prop := S2.Zs zs = [] ∨ ∃ a, A = some a ∧ X a.block ∧ ∀ j u, (S2.Zs zs)[j]? = some u → w.cell? (a.add j) = some u
theorem Rz.row {X : Nat → Prop} {w : World} {A : Option Addr} {zs : List Int} (h : Rz X w A zs) (hX : ∀ k, X k → k < w.heap.size) : S2.Row w w.heap.size A (S2.Zs zs) := by
  rcases h with h | ⟨a, h1, h2, h3⟩
  · exact .inl h
  · exact .inr ⟨a, h1, hX _ h2, h3⟩
theorem Rz.fr {X : Nat → Prop} {w w' : World} {A : Option Addr} {zs : List Int} (h : Rz X w A zs) (hf : Fr X w w') : Rz X w' A zs := by
  rcases h with h | ⟨a, h1, h2, h3⟩
  · exact .inl h
  · exact .inr ⟨a, h1, h2, fun j u hu => (hf.cell (p := a.add j) (by rw [S2.add_block]; exact h2)).trans (h3 j u hu)⟩
theorem Rz.mono {X Y : Nat → Prop} {w : World} {A : Option Addr} {zs : List Int} (h : Rz X w A zs) (hXY : ∀ k, X k → Y k) : Rz Y w A zs := by
  rcases h with h | ⟨a, h1, h2, h3⟩
  · exact .inl h
  · exact .inr ⟨a, h1, hXY _ h2, h3⟩
theorem Rz.nil (X : Nat → Prop) (w : World) (A : Option Addr) : Rz X w A [] := .inl rfl
set_option maxHeartbeats 1000000 in
set_option maxRecDepth 100000 in
theorem Crash_any (X : Nat → Prop) (p : Nat) (D : MD) (zs : List Int) (A : Option Addr) (n c : Nat) (hn : n = zs.length) (hz : ∀ x ∈ zs, isI x) (w : World) (hr : Rz X w A zs) (h : Dk X w p D) :
    Calls Try.prog 14 #[ptr p, .slice A n c] w fun e w' => e = .returned (.tuple #[]) ∧ Dk X w' p (D.Crash zs) ∧ Fr X w w' := by
  have H := Lib.hid h
  obtain ⟨_, vs, hv⟩ := h
  have c1 := hv.c_down
  have K := Lib.hid (keptOf_any zs A n c hn w (hr.row hv.lt))
  have hlt := hv.lt
  have HLT := Lib.hid hlt
  have HZ := Lib.hid hz
  clear hv hn hr hz hlt
  cases hd : D.down with
  | true =>
    rw [hd] at c1
    have R := Lib.hid (show D.Crash zs = D by unfold MD.Crash; rw [if_pos hd])
    clear hd
    go_enter Try.func14, Try.ntmps14
    go_wp2
    go_end0
    exact ⟨rfl, by rw [R.out]; exact H.out, Fr.refl _ _⟩
  | false =>
    rw [hd] at c1
    have R := Lib.hid (show D.Crash zs = D.crash (kof zs) by unfold MD.Crash; rw [if_neg (by simp [hd])])
    clear hd
    go_enter Try.func14, Try.ntmps14
    go_wp2_with fail
    refine K.out.mono ?_
    rintro e w1 ⟨rfl, hb⟩
    have K2 := Lib.hid (crash_any X p D (kof zs) (fun i _ => kof_in HZ.out i) w1 (H.out.step hb))
    have F1 := Lib.hid (Fr.of_below hb HLT.out)
    clear hb
    go_wp2_with fail
    refine K2.out.mono ?_
    rintro e w2 ⟨rfl, h3, h4⟩
    have H3 := Lib.hid h3
    have H4 := Lib.hid (F1.out.trans h4)
    clear h3 h4
    go_wp2
    go_end0
    exact ⟨rfl, by rw [R.out]; exact H3.out, H4.out⟩

set_option maxHeartbeats 1000000 in
set_option maxRecDepth 100000 in
theorem Arm_any (X : Nat → Prop) (p : Nat) (D : MD) (m : Int) (hm : isI m) (zs : List Int) (A : Option Addr) (n c : Nat) (hn : n = zs.length) (hz : ∀ x ∈ zs, isI x) (w : World) (hr : Rz X w A zs) (h : Dk X w p D) :
    Calls Try.prog 33 #[ptr p, .int .i64 m, .slice A n c] w fun e w' => e = .returned (.tuple #[]) ∧ Dk X w' p (D.arm m zs) ∧ Fr X w w' := by
  have RO := Lib.hid (arm_ok h.ok hm hz)
  obtain ⟨_, vs, hv⟩ := h
  have HV := Lib.hid hv
  have HLT := Lib.hid hv.lt
  have HR := Lib.hid hr
  have HN := Lib.hid hn
  have HPX := Lib.hid hv.pX
  have HPL := Lib.hid hv.p_lt
  clear hv hn hr hz
  by_cases hpos : 0 < m
  · have R := Lib.hid (show D.arm m zs = { D with calls := m, keep := kof zs } by unfold MD.arm; rw [if_pos hpos])
    go_enter Try.func33, Try.ntmps33
    go_wp2_with (refine wpList_store_plan rfl _ _ rfl 0 (fun _ => 0) rfl rfl HV.out ?_)
    intro w1 h1 f1
    have K := Lib.hid (keptOf_any zs A n c HN.out w1 ((HR.out.fr f1).row h1.lt))
    have H1 := Lib.hid h1
    have F1 := Lib.hid f1
    clear h1 f1
    go_wp2_with fail
    refine K.out.mono ?_
    rintro e w2 ⟨rfl, hb⟩
    have H2 := Lib.hid (H1.out.step hb)
    have F2 := Lib.hid (F1.out.trans (Fr.of_below hb H1.out.lt))
    have hkv : (KV (kof zs)).toArray = #[.int .i64 (kof zs 0), .int .i64 (kof zs 1), .int .i64 (kof zs 2), .int .i64 (kof zs 3), .int .i64 (kof zs 4), .int .i64 (kof zs 5), .int .i64 (kof zs 6), .int .i64 (kof zs 7)] := rfl
    rw [hkv]
    clear hb hkv
    go_wp2_with (refine wpList_store_plan rfl _ _ rfl m (kof zs) rfl rfl H2.out ?_)
    intro w3 h3 f3
    have H3 := Lib.hid h3
    have F3 := Lib.hid (F2.out.trans f3)
    clear h3 f3
    go_wp2
    go_end0
    exact ⟨rfl, ⟨RO.out, vs, by rw [R.out]; exact H3.out⟩, F3.out⟩
  · have hneg : m ≤ 0 := by omega
    have R := Lib.hid (show D.arm m zs = { D with calls := 0, keep := fun _ => 0 } by unfold MD.arm; rw [if_neg hpos])
    clear hpos
    go_enter Try.func33, Try.ntmps33
    go_wp2_with (refine wpList_store_plan rfl _ _ rfl 0 (fun _ => 0) rfl rfl HV.out ?_)
    intro w1 h1 f1
    have H1 := Lib.hid h1
    have F1 := Lib.hid f1
    clear h1 f1
    go_wp2
    go_end0
    exact ⟨rfl, ⟨RO.out, vs, by rw [R.out]; exact H1.out⟩, F1.out⟩
end Dk
end Go.Proofs.Ytihanhdepijijaa.S9
