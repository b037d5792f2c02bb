/-
  Layer 10: the laws' file and rows.
-/
import Derived.Test.YtihanhdepijijaaWalLow
import Derived.LoopTactic
namespace Go.Proofs.Ytihanhdepijijaa
open Go.RowKit
namespace Wl
open S9.Dk (Dk Fr MD By isI)
attribute [local go_sem] S2.B_size S2.B_list

theorem record_le (s : Str) : (record c4 s).length ≤ s.length + 13 := by
  rw [record_length c4_len]
  have := S2.Cd.encN_len s.length
  omega
theorem records_le {l : List Str} {m : Nat} (h : ∀ s ∈ l, s.length ≤ m) : (records c4 l).length ≤ l.length * (m + 13) := by
  induction l with
  | nil => simp [records]
  | cons s l ih =>
    rw [records_cons, List.length_append, List.length_cons, Nat.succ_mul]
    have h1 := ih fun u hu => h u (List.mem_cons_of_mem _ hu)
    have h2 := record_le s
    have h3 := h s List.mem_cons_self
    omega
theorem new_calm : Calm MD.new := ⟨rfl, rfl, rfl⟩
theorem read0 {D : MD} (h : Calm D) : D.read 0 = (D.text 0, 0) := h.read (g := 0) (by omega)
/-- Open in peace. -/
theorem peace_open (D : MD) (f : Nat) (h : Calm D) (hf : f < 7) {fi : Int} (hfi : fi = (f : Int)) : ∃ D', lopen c4 D fi = ((some (rows c4 (D.text f)).1, 0), D') ∧ Peace c4 D D' f (rows c4 (D.text f)).1 := by
  subst hfi
  exact lopen_calm c4_len h hf
theorem lapp0 {D : MD} {R : List Str} {s : Str} {f : Nat} {fi : Int} (hfi : fi = (f : Int)) (h : Calm D) (hf : f < 8) (ht : D.text f = records c4 R) (hs : okRow s) (hl : (records c4 R).length + (record c4 s).length ≤ 16777216) : lapp c4 D fi R s = (0, R ++ [s], D.put f (record c4 s)) := by
  subst hfi
  exact lapp_calm h hf ht hs hl
theorem put_text (D : MD) (f : Nat) (s : Str) : (D.put f s).text f = D.text f ++ s := S9.Dk.upd_same _ _ _
theorem put_calm {D : MD} (h : Calm D) (f : Nat) (s : Str) : Calm (D.put f s) := ⟨h.down, h.lost, h.calls⟩

set_option maxHeartbeats 4000000 in
set_option maxRecDepth 100000 in
theorem file_any (A : Option Addr) (n c : Nat) (l : List Str) (w : World) (hr : S2.Row w w.heap.size A (S2.Ss l)) (hn : n = l.length) (hn2 : n ≤ 60) (hl : ∀ s ∈ l, s.length ≤ 1500) :
    Calls Try.prog 17 #[.slice A n c] w fun e w' => e = .returned (.tuple #[.string (S2.B (records c4 l)), .bool true]) ∧ Below w.heap.size w w' := by
  obtain ⟨X0, hX0⟩ : ∃ X0 : Nat → Prop, X0 = fun k => k < w.heap.size := ⟨_, rfl⟩
  have HX0 := Lib.hid (show ∀ k, k < w.heap.size → X0 k from fun k hk => by rw [hX0]; exact hk)
  have C := Lib.hid (show Ca X0 X0 w w by rw [hX0]; exact Ca.start w)
  have HR := Lib.hid (show Rx X0 w A l from Rx.of_row hr fun k hk => HX0.out k hk)
  have HN := Lib.hid hn
  have HL := Lib.hid hl
  have hnI : (n : Int) ≤ 60 := by omega
  obtain ⟨D0, he0, hp0⟩ := peace_open MD.new 0 new_calm (by omega) (fi := 0) rfl
  have hrw : (rows c4 (MD.new.text 0)).1 = [] := by decide +kernel
  rw [hrw] at he0 hp0
  have HE0 := Lib.hid he0
  have HP0 := Lib.hid hp0
  clear hX0 hr hn hl he0 hp0 hrw
  go_enter Try.func17, Try.ntmps17
  go_wp2_with fail
  refine (S9.Dk.New_any w).mono ?_
  rintro e w1 ⟨rfl, h, hb⟩
  have L := Lib.hid (show Dk X0 w1 w.heap.size MD.new from h.weaken fun k hk => C.out.lt k hk)
  replace HR := Lib.hid (HR.out.fr (Fr.of_below hb C.out.lt))
  replace C := Lib.hid (C.out.below hb)
  obtain ⟨p, hp⟩ : ∃ p, p = w.heap.size := ⟨_, rfl⟩
  rw [← hp] at L ⊢
  clear h hb hp
  go_wp2_with fail
  refine (Open_ok (f := 0) L.out HE0.out).mono ?_
  rintro e w2 ⟨x, rfl, h, f⟩
  replace L := Lib.hid h
  replace HR := Lib.hid (HR.out.fr f)
  replace C := Lib.hid (C.out.next f)
  clear h f HE0
  go_wp2_with fail
  go_loopw [7] (fun i wr => ∃ (k : Nat) (D : MD), i = .int .i64 (k : Int) ∧ k ≤ n ∧ Calm D ∧ D.text 0 = records c4 (l.take k) ∧ Lg X0 wr x p 0 (l.take k) D ∧ Ca X0 X0 w wr ∧ Rx X0 wr A l) (fun i _ => n - (intOf i).toNat)
  case atStart => exact ⟨0, D0, rfl, by omega, HP0.out.calm, HP0.out.text, L.out, C.out, HR.out⟩
  case round =>
    obtain ⟨k, D, rfl, hk, hcalm, htext, hlg, hca, hrx⟩ := hrel
    by_cases hc : k < n
    · have hc' : (k : Int) < (n : Int) := by omega
      have hkl : k < l.length := by have := HN.out; omega
      obtain ⟨a, rfl, _, hcell⟩ := hrx.at_ hkl
      have hsl := HL.out _ (List.getElem_mem hkl)
      have htk : (l.take k).length ≤ 60 := by rw [List.length_take]; omega
      have hlen := records_le (l := l.take k) (m := 1500) (fun s hs => HL.out s (List.mem_of_mem_take hs))
      have hrl := record_le l[k]
      have hla := lapp0 (f := 0) (fi := 0) rfl hcalm (by omega) htext (show okRow l[k] by unfold okRow; omega) (by omega)
      have hnx : l.take (k + 1) = l.take k ++ [l[k]] := List.take_succ_eq_append_getElem hkl
      have hrs := records_take_succ l hkl
      obtain ⟨s, hs⟩ : ∃ s, s = l[k] := ⟨_, rfl⟩
      rw [← hs] at hcell hsl hla hnx hrs
      have KA := Lib.hid (Append_any X0 x p 0 (l.take k) D s wr hlg (by omega) (by omega))
      have HLA := Lib.hid hla
      have HNX := Lib.hid hnx
      have HRS := Lib.hid hrs
      have HT := Lib.hid htext
      have HC := Lib.hid hcalm
      have HCA := Lib.hid hca
      have HRX := Lib.hid hrx
      clear hs hla hnx hrs htext hcalm hca hrx hlg hkl hsl htk hlen hrl
      go_wp2_with fail
      refine KA.out.mono ?_
      rintro e w3 ⟨rfl, h, f⟩
      rw [HLA.out] at h ⊢
      have RR := Lib.hid (show ∃ D', Calm D' ∧ D'.text 0 = records c4 (l.take (k + 1)) ∧ Lg X0 w3 x p 0 (l.take (k + 1)) D' ∧ Ca X0 X0 w w3 ∧ Rx X0 w3 (some a) l from
        ⟨D.put 0 (record c4 s), put_calm HC.out 0 _, by rw [put_text, HT.out, HRS.out], by rw [HNX.out]; exact h, HCA.out.next f, HRX.out.fr f⟩)
      clear h f KA HLA HNX HRS HT HC HCA HRX hcell
      go_wp2
      go_roundw
      case rel => obtain ⟨D', h1, h2, h3, h4, h5⟩ := RR.out; exact ⟨k + 1, D', by go_num, by omega, h1, h2, h3, h4, h5⟩
      case measure => simp [intOf]; omega
    · have hc' : ¬ (k : Int) < (n : Int) := by omega
      have hkn : k = l.length := by have := HN.out; omega
      rw [hkn, List.take_length] at htext hlg
      have KR := Lib.hid (hlg.via (Q := fun e => e = .returned (.tuple #[.string (S2.B (D.text 0)), .int .i64 0])) (D' := D) fun Y hd _ => (S9.Dk.Read_any Y p D 0 wr hd).mono fun e w' h => by rw [read0 hcalm] at h; exact h)
      rw [htext] at KR
      have HCA := Lib.hid hca
      obtain ⟨q, hq⟩ : ∃ q, q = records c4 l := ⟨_, rfl⟩
      rw [← hq] at KR
      have HQ := Lib.hid hq
      clear htext hlg hcalm hca hrx hkn hc hq
      go_wp2_with fail
      refine KR.out.mono ?_
      rintro e w3 ⟨rfl, h, f⟩
      have RR := Lib.hid ((HCA.out.next f).end_ HX0.out)
      clear h f KR HCA
      go_wp2
      go_ret2
      exact ⟨by rw [← HQ.out]; rfl, RR.out⟩

set_option maxHeartbeats 4000000 in
set_option maxRecDepth 100000 in
theorem rows_any (b : Str) (w : World) (hb : b.length ≤ 1000000) :
    Calls Try.prog 18 #[.string (S2.B b)] w fun e w' => ∃ A n c, e = .returned (.tuple #[.slice A n c, .int .i64 ((records c4 (rows c4 b).1).length : Nat), .bool true]) ∧ n = (rows c4 b).1.length ∧ n ≤ c ∧ S2.Row w' w'.heap.size A (S2.Ss (rows c4 b).1) ∧ Below w.heap.size w w' := by
  obtain ⟨X0, hX0⟩ : ∃ X0 : Nat → Prop, X0 = fun k => k < w.heap.size := ⟨_, rfl⟩
  have HX0 := Lib.hid (show ∀ k, k < w.heap.size → X0 k from fun k hk => by rw [hX0]; exact hk)
  have C := Lib.hid (show Ca X0 X0 w w by rw [hX0]; exact Ca.start w)
  have happ : MD.new.app 0 b = (0, MD.new.put 0 b) := new_calm.app (g := 0) (by omega) (by show 0 + b.length ≤ _; omega)
  obtain ⟨D1, he1, hp1⟩ := peace_open (MD.new.put 0 b) 0 (put_calm new_calm 0 b) (by omega) (fi := 0) rfl
  have ht : (MD.new.put 0 b).text 0 = b := put_text _ _ _
  rw [ht] at he1 hp1
  obtain ⟨R, hR⟩ : ∃ R, R = (rows c4 b).1 := ⟨_, rfl⟩
  rw [← hR] at he1 hp1
  have hRl : R.length ≤ 16000000 := by
    have h1 := (rows_spec c4_len b).1
    have h2 := congrArg List.length h1
    rw [List.length_append, ← hR] at h2
    have : ∀ l : List Str, l.length ≤ (records c4 l).length := by
      intro l
      induction l with
      | nil => exact Nat.zero_le _
      | cons s l ih => rw [records_cons, List.length_append, List.length_cons]; have := record_pos c4_len s; omega
    have := this R
    omega
  have HRL := Lib.hid hRl
  have HRR := Lib.hid hR
  have HE1 := Lib.hid he1
  have HP1 := Lib.hid hp1
  have HAPP := Lib.hid happ
  have HB := Lib.hid (show b.length ≤ 1000000000 by omega)
  clear hX0 happ he1 hp1 ht hR hRl hb
  go_enter Try.func18, Try.ntmps18
  go_wp2_with fail
  refine (S9.Dk.New_any w).mono ?_
  rintro e w1 ⟨rfl, h, hb⟩
  have L := Lib.hid (show Dk X0 w1 w.heap.size MD.new from h.weaken fun k hk => C.out.lt k hk)
  replace C := Lib.hid (C.out.below hb)
  obtain ⟨p, hp⟩ : ∃ p, p = w.heap.size := ⟨_, rfl⟩
  rw [← hp] at L ⊢
  clear h hb hp
  go_wp2_with fail
  refine (S9.Dk.Append_any X0 p MD.new 0 b HB.out _ L.out).mono ?_
  rintro e w2 ⟨rfl, h, f⟩
  rw [HAPP.out] at h ⊢
  replace L := Lib.hid h
  replace C := Lib.hid (C.out.next f)
  clear h f HAPP
  go_wp2_with fail
  refine (Open_ok (f := 0) L.out HE1.out).mono ?_
  rintro e w3 ⟨x, rfl, h, f⟩
  replace L := Lib.hid h
  replace C := Lib.hid (C.out.next f)
  clear h f HE1
  go_wp2_with fail
  refine (All_in L.out HRL.out).mono ?_
  rintro e w4 ⟨A, n, c, rfl, hn, hc, hr, h, hb⟩
  have hC := C.out.let_in hb
  obtain ⟨X1, hX⟩ : ∃ X, X = upTo X0 w3.heap.size w4.heap.size := ⟨_, rfl⟩
  rw [← hX] at hC hr h
  have K := Lib.hid (h.via (Q := fun e => e = .returned (.int .i64 ((records c4 R).length : Nat))) (D' := D1) fun Y hd _ => (S9.Dk.size_any Y p D1 0 w4 hd).mono fun e w' h => by
    have hs : D1.size 0 = (records c4 R).length := by
      have := Calm.size (D := D1) (g := 0) (by omega)
      rw [HP1.out.text] at this
      exact this
    rw [hs] at h
    exact ⟨h.1, h.2 ▸ hd, h.2 ▸ Fr.refl _ _⟩)
  have RR := Lib.hid (show n = (rows c4 b).1.length ∧ n ≤ c ∧ Rx X1 w4 A (rows c4 b).1 ∧ Ca X0 X1 w w4 by rw [← HRR.out]; exact ⟨hn, hc, hr, hC⟩)
  obtain ⟨z, hz⟩ : ∃ z, z = (records c4 R).length := ⟨_, rfl⟩
  rw [← hz] at K
  have HZ := Lib.hid (show z = (records c4 (rows c4 b).1).length by rw [← HRR.out]; exact hz)
  clear hn hc hr hC h hb hX HP1 HRL L C hz HRR
  go_wp2_with fail
  refine K.out.mono ?_
  rintro e w5 ⟨rfl, h, f⟩
  have R2 := Lib.hid (show S2.Row w5 w5.heap.size A (S2.Ss (rows c4 b).1) ∧ Below w.heap.size w w5 from ⟨(RR.out.2.2.1.fr f).row (RR.out.2.2.2.next f).lt, (RR.out.2.2.2.next f).end_ HX0.out⟩)
  clear h f K
  go_wp2
  refine bodyPost_ret (results_tmp3 rfl _ _ _) rfl ?_
  exact ⟨A, n, c, by rw [← HZ.out]; rfl, RR.out.1, RR.out.2.1, R2.out⟩
end Wl
end Go.Proofs.Ytihanhdepijijaa
