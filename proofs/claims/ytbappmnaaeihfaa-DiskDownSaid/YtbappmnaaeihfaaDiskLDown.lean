/-
  Layer 9 (disk): DiskDown.
-/
import Derived.Test.YtbappmnaaeihfaaDiskLTurns
import Derived.Deep.RegionHeld3
namespace Go.Proofs.Ytbappmnaaeihfaa
open Go.RowKit
namespace Dk
attribute [local go_sem] S2.B_size S2.B_list
/-- Two machines, neither of which lies in X nor in the other. -/
def Two (X : Nat → Prop) (w : World) (p : Nat) (D : MD) (q : Nat) (C : MD) : Prop :=
  ∃ Z : Nat → Prop, (∀ k, Z k → k < w.heap.size) ∧ (∀ k, X k → ¬ Z k) ∧ Dk (fun k => X k ∨ Z k) w p D ∧ Dk (fun k => k < w.heap.size ∧ ¬ Z k) w q C
theorem Two.copied {X : Nat → Prop} {w w' : World} {p : Nat} {D : MD} (h : Dk X w p D) (hc : Dk (fun k => k < w.heap.size) w' w.heap.size D) (hb : Below w.heap.size w w') : Two X w' p D w.heap.size D ∧ Fr X w w' := by
  refine ⟨⟨fun k => w.heap.size ≤ k ∧ k < w'.heap.size, fun k hk => hk.2, fun k hx hz => ?_, h.more hb (fun k hk => hk), hc.weaken (fun k hk => ?_)⟩, Fr.of_below hb h.lt⟩
  · have := h.lt k hx
    omega
  · have h1 := hk.1
    have h2 := hk.2
    have : ¬ (w.heap.size ≤ k) := fun h3 => h2 ⟨h3, h1⟩
    omega
theorem Two.first {X : Nat → Prop} {w w0 : World} {p : Nat} {D : MD} {q : Nat} {C D' : MD} {f : FuncId} {args : Array Value} {P : Ending → Prop} (h : Two X w p D q C)
    (hc : ∀ Y, Dk Y w p D → (∀ k, X k → Y k) → Calls Try.prog f args w0 (fun e w' => P e ∧ Dk Y w' p D' ∧ Fr Y w w')) : Calls Try.prog f args w0 (fun e w' => P e ∧ Two X w' p D' q C ∧ Fr X w w') := by
  obtain ⟨Z, h1, h2, h3, h4⟩ := h
  refine (hc _ h3 (fun k hk => .inl hk)).mono ?_
  rintro e w' ⟨he, hd, hf⟩
  refine ⟨he, ⟨Z, fun k hk => Nat.lt_of_lt_of_le (h1 k hk) hf.size, h2, hd, h4.move (fun k hk hn => hf.block k (.inr ?_)) (fun k hk => hk.1) (fun k hk => ?_)⟩, hf.weaken (fun k hk => .inl hk)⟩
  · by_cases hz : Z k
    · exact hz
    · exact absurd ⟨hk, hz⟩ hn
  · by_cases hlt : k < w.heap.size
    · exact .inl ⟨hlt, hk.2⟩
    · exact .inr (by omega)
theorem Two.second {X : Nat → Prop} {w : World} {p : Nat} {D : MD} {q : Nat} {C C' : MD} {f : FuncId} {args : Array Value} {P : Ending → Prop} (h : Two X w p D q C)
    (hc : ∀ Y, Dk Y w q C → Calls Try.prog f args w (fun e w' => P e ∧ Dk Y w' q C' ∧ Fr Y w w')) : Calls Try.prog f args w (fun e w' => P e ∧ Two X w' p D q C' ∧ Fr X w w') := by
  obtain ⟨Z, h1, h2, h3, h4⟩ := h
  have hx : ∀ k, X k → k < w.heap.size := fun k hk => h3.lt k (.inl hk)
  refine (hc _ h4).mono ?_
  rintro e w' ⟨he, hd, hf⟩
  refine ⟨he, ⟨fun k => Z k ∨ (w.heap.size ≤ k ∧ k < w'.heap.size), fun k hk => ?_, fun k hk hz => ?_, h3.move (fun k hk hn => hf.block k ⟨hk, fun hz => hn (.inr hz)⟩) (fun k hk => ?_) (fun k hk => ?_), hd.weaken (fun k hk => ?_)⟩, hf.weaken (fun k hk => ⟨hx k hk, h2 k hk⟩)⟩
  · rcases hk with hk | hk
    · exact Nat.lt_of_lt_of_le (h1 k hk) hf.size
    · exact hk.2
  · rcases hz with hz | hz
    · exact h2 k hk hz
    · have := hx k hk
      omega
  · rcases hk with hk | hk | hk
    · exact Nat.lt_of_lt_of_le (hx k hk) hf.size
    · exact Nat.lt_of_lt_of_le (h1 k hk) hf.size
    · exact hk.2
  · rcases hk with hk | hk | hk
    · exact .inl (.inl hk)
    · exact .inl (.inr hk)
    · exact .inr hk.1
  · refine ⟨?_, fun hz => hk.2 (.inl hz)⟩
    by_cases hlt : k < w.heap.size
    · exact hlt
    · exact absurd (Or.inr ⟨by omega, hk.1⟩) hk.2

/-- The machine is up, and no crash is planned. -/
structure Idle (D : MD) : Prop where
  down : D.down = false
  calls : D.calls = 0
theorem idle_new (D : MD) : Idle (D.arm 0 []).start := by
  unfold MD.arm
  rw [if_neg (by decide)]
  exact ⟨rfl, rfl⟩
theorem bad_chk {D : MD} (h : Idle D) {f : Int} (hf : isF f = false) : D.chk1 f = 1 := by simp [MD.chk1, h.down, hf]
theorem bad_app {D : MD} (h : Idle D) {f : Int} (hf : isF f = false) (s : Str) : D.app f s = (1, D) := by
  have hE : D.appE f s = 1 := by unfold MD.appE; rw [bad_chk h hf, if_pos (by decide)]
  unfold MD.app MD.app1
  rw [hE, up_hit h.calls, if_neg (by decide), if_neg (by decide), up_tick h.calls]
theorem bad_flush {D : MD} (h : Idle D) {f : Int} (hf : isF f = false) : D.flush f = (1, D) := by
  rw [up_flush h.calls]
  unfold MD.flush1
  rw [bad_chk h hf, if_pos (by decide)]
theorem bad_cut {D : MD} (h : Idle D) {f : Int} (hf : isF f = false) (n : Int) : D.cut f n = (1, D) := by
  unfold MD.cut
  rw [up_hit h.calls, up_tick h.calls]
  show D.cut1 f n = _
  unfold MD.cut1
  rw [bad_chk h hf, if_pos (by decide)]
theorem bad_turn {D : MD} (h : Idle D) {f g : Int} (hf : (isF f && isF g) = false) : D.turn f g = (1, D) := by
  rw [up_turn h.calls]
  unfold MD.turn1
  rw [show D.chk2 f g = 1 by unfold MD.chk2; rw [h.down, hf]; rfl, if_pos (by decide)]
theorem bad_size (D : MD) {f : Int} (hf : isF f = false) : D.size f = 0 := by unfold MD.size; rw [hf]; rfl
theorem off_hit {D : MD} (h : D.down = true) : D.hit = false := by simp [MD.hit, h]
theorem off_tick {D : MD} (h : D.down = true) : D.tick = D := by unfold MD.tick; rw [if_pos (.inl h)]
theorem off_chk {D : MD} (h : D.down = true) (f : Int) : D.chk1 f = 8 := by simp [MD.chk1, h]
theorem off_app {D : MD} (h : D.down = true) (f : Int) (s : Str) : D.app f s = (8, D) := by
  have hE : D.appE f s = 8 := by unfold MD.appE; rw [off_chk h, if_pos (by decide)]
  unfold MD.app MD.app1
  rw [hE, off_hit h, if_neg (by decide), if_neg (by decide), off_tick h]
theorem off_flush {D : MD} (h : D.down = true) (f : Int) : D.flush f = (8, D) := by
  unfold MD.flush
  rw [off_hit h, off_tick h]
  show D.flush1 f = _
  unfold MD.flush1
  rw [off_chk h, if_pos (by decide)]
theorem off_cut {D : MD} (h : D.down = true) (f n : Int) : D.cut f n = (8, D) := by
  unfold MD.cut
  rw [off_hit h, off_tick h]
  show D.cut1 f n = _
  unfold MD.cut1
  rw [off_chk h, if_pos (by decide)]
theorem off_turn {D : MD} (h : D.down = true) (f g : Int) : D.turn f g = (8, D) := by
  unfold MD.turn
  rw [off_hit h, off_tick h]
  show D.turn1 f g = _
  unfold MD.turn1
  rw [show D.chk2 f g = 8 by unfold MD.chk2; rw [h]; rfl, if_pos (by decide)]
theorem off_read {D : MD} (h : D.down = true) (f : Int) : D.read f = ([], 8) := by
  unfold MD.read
  rw [off_chk h, if_pos (by decide)]
theorem off_crash {D : MD} (h : D.down = true) (ks : List Int) : D.Crash ks = D := by unfold MD.Crash; rw [if_pos h]
theorem crash_off (D : MD) (ks : List Int) : (D.Crash ks).down = true := by
  unfold MD.Crash
  split
  · assumption
  · rfl
set_option maxHeartbeats 4000000 in
set_option maxRecDepth 100000 in
theorem down_walk (l : List Ac) (A : Option Addr) (m c : Nat) (hm : m = l.length) (hm2 : m ≤ maxLen) (Do F G N : Int) (S : Str) (A2 : Option Addr) (n2 c2 : Nat) (hF : isI F) (hS : S.length ≤ maxLen) (W : World) (hl : As (fun k => k < W.heap.size) W A l) :
    Calls Try.prog 4 #[.slice A m c, .agg #[.int .i64 Do, .int .i64 F, .int .i64 G, .int .i64 N, .string (S2.B S), .slice A2 n2 c2]] W fun e w' => e = .returned (.bool true) ∧ Below W.heap.size W w' := by
  obtain ⟨W1, hW1⟩ : ∃ W1, W1 = W.alloc (.cells #[.int .i64 Do, .int .i64 F, .int .i64 G, .int .i64 N, .string (S2.B S), .slice A2 n2 c2] 30) := ⟨_, rfl⟩
  have hbw : Below W.heap.size W W1 := by rw [hW1]; exact (Below.refl _ _).alloc (Nat.le_refl _) _
  have hsz : W1.heap.size = W.heap.size + 1 := by rw [hW1]; simp
  have hh : W1.heap[W.heap.size]? = some (.cells #[.int .i64 Do, .int .i64 F, .int .i64 G, .int .i64 N, .string (S2.B S), .slice A2 n2 c2] 30 (0, 0)) := by rw [hW1]; exact heap_alloc_new W _
  have HB := Lib.hid (show W1.cell? ⟨W.heap.size, 1, none⟩ = some (.int .i64 F) ∧ W1.cell? ⟨W.heap.size, 2, none⟩ = some (.int .i64 G) ∧ W1.cell? ⟨W.heap.size, 3, none⟩ = some (.int .i64 N) ∧ W1.cell? ⟨W.heap.size, 4, none⟩ = some (.string (S2.B S)) from ⟨by rw [cell_of_row _ _ _ _ _ _ hh]; rfl, by rw [cell_of_row _ _ _ _ _ _ hh]; rfl, by rw [cell_of_row _ _ _ _ _ _ hh]; rfl, by rw [cell_of_row _ _ _ _ _ _ hh]; rfl⟩)
  have HA := Lib.hid (show As (fun k => k < W1.heap.size) W1 A l from (hl.fr (Fr.of_below hbw (fun k hk => hk))).mono (fun k hk => by omega))
  have HBW := Lib.hid hbw
  have HSZ := Lib.hid (show W.heap.size ≤ W1.heap.size by omega)
  have HW1 := Lib.hid hW1
  have HM := Lib.hid hm
  have HM2 := Lib.hid hm2
  unfold isI at hF
  unfold maxLen at hS hm2
  have hmI : (m : Int) ≤ 9223372036854775807 := by omega
  have hSI : (S.length : Int) ≤ 9223372036854775807 := by omega
  clear hl hW1 hbw hsz hh hm hm2
  cases hf : fewB l with
  | false =>
    have HF := Lib.hid hf
    clear hf
    go_enter Try.func4, Try.ntmps4
    go_wp2_with fail
    rw [← HW1.out]
    refine (small_any W1).mono ?_
    rintro e w1 ⟨rfl, hb1⟩
    have HB1 := Lib.hid hb1
    clear hb1
    go_wp2_with fail
    refine (New_any w1).mono ?_
    rintro e w2 ⟨rfl, h, hb⟩
    obtain ⟨X, hX⟩ : ∃ X, X = fun k => k < W1.heap.size := ⟨_, rfl⟩
    have HX := Lib.hid hX
    have hsz := HB1.out.size
    have H := Lib.hid (show Dk X w2 w1.heap.size MD.new from h.weaken (fun k hk => by rw [hX] at hk; omega))
    have FR := Lib.hid (show Fr X W1 w2 from Fr.of_below (HB1.out.trans (hb.mono hsz)) (fun k hk => by rw [hX] at hk; exact hk))
    have HXB := Lib.hid (show X W.heap.size by rw [hX, HW1.out]; simp)
    have AS := Lib.hid (show As X W1 A l by rw [hX]; exact HA.out)
    have BX := Lib.hid (fun wq (hq : Fr X W1 wq) => (⟨(hq.cell (p := ⟨W.heap.size, 1, none⟩) HXB.out).trans HB.out.1, (hq.cell (p := ⟨W.heap.size, 2, none⟩) HXB.out).trans HB.out.2.1, (hq.cell (p := ⟨W.heap.size, 3, none⟩) HXB.out).trans HB.out.2.2.1, (hq.cell (p := ⟨W.heap.size, 4, none⟩) HXB.out).trans HB.out.2.2.2⟩ : wq.cell? ⟨W.heap.size, 1, none⟩ = some (.int .i64 F) ∧ wq.cell? ⟨W.heap.size, 2, none⟩ = some (.int .i64 G) ∧ wq.cell? ⟨W.heap.size, 3, none⟩ = some (.int .i64 N) ∧ wq.cell? ⟨W.heap.size, 4, none⟩ = some (.string (S2.B S))))
    clear h hb hX hsz HB1 HA HB
    generalize w1.heap.size = p at *
    go_wp2_with fail
    refine (few_any X l A m c HM.out HM2.out w2 (AS.out.fr FR.out)).mono ?_
    rintro e w3 ⟨rfl, k, hk⟩
    have hb3 : Below w2.heap.size w2 w3 := by rw [hk]; exact ⟨rfl, rfl, rfl, Nat.le_refl _, fun _ _ => rfl⟩
    replace FR := Lib.hid (FR.out.trans (Fr.of_below hb3 H.out.lt))
    replace H := Lib.hid (H.out.step hb3)
    clear hk hb3
    rw [HF.out]
    obtain ⟨a1, a2, a3, a4⟩ := BX.out _ FR.out
    go_wp2
    go_ret
    exact ⟨rfl, HBW.out.trans ((FR.out.below (fun k hk => by rw [HX.out]; exact hk)).mono HSZ.out)⟩
  | true =>
    have HF := Lib.hid hf
    have hf2 := hf
    unfold fewB at hf2
    rw [Bool.and_eq_true, decide_eq_true_eq, decide_eq_true_eq] at hf2
    have HWT := Lib.hid hf2.2
    have hm200 : (m : Int) ≤ 200 := by have := HM.out; omega
    clear hf hf2 hmI
    by_cases hs : S.length ≤ 100000
    · have hsI : (S.length : Int) ≤ 100000 := by omega
      have HS := Lib.hid (show S.length ≤ 1000000000 by omega)
      clear hS hSI hs
      go_enter Try.func4, Try.ntmps4
      go_wp2_with fail
      rw [← HW1.out]
      refine (small_any W1).mono ?_
      rintro e w1 ⟨rfl, hb1⟩
      have HB1 := Lib.hid hb1
      clear hb1
      go_wp2_with fail
      refine (New_any w1).mono ?_
      rintro e w2 ⟨rfl, h, hb⟩
      obtain ⟨X, hX⟩ : ∃ X, X = fun k => k < W1.heap.size := ⟨_, rfl⟩
      have HX := Lib.hid hX
      have hsz := HB1.out.size
      have H := Lib.hid (show Dk X w2 w1.heap.size MD.new from h.weaken (fun k hk => by rw [hX] at hk; omega))
      have FR := Lib.hid (show Fr X W1 w2 from Fr.of_below (HB1.out.trans (hb.mono hsz)) (fun k hk => by rw [hX] at hk; exact hk))
      have HXB := Lib.hid (show X W.heap.size by rw [hX, HW1.out]; simp)
      have AS := Lib.hid (show As X W1 A l by rw [hX]; exact HA.out)
      have BX := Lib.hid (fun wq (hq : Fr X W1 wq) => (⟨(hq.cell (p := ⟨W.heap.size, 1, none⟩) HXB.out).trans HB.out.1, (hq.cell (p := ⟨W.heap.size, 2, none⟩) HXB.out).trans HB.out.2.1, (hq.cell (p := ⟨W.heap.size, 3, none⟩) HXB.out).trans HB.out.2.2.1, (hq.cell (p := ⟨W.heap.size, 4, none⟩) HXB.out).trans HB.out.2.2.2⟩ : wq.cell? ⟨W.heap.size, 1, none⟩ = some (.int .i64 F) ∧ wq.cell? ⟨W.heap.size, 2, none⟩ = some (.int .i64 G) ∧ wq.cell? ⟨W.heap.size, 3, none⟩ = some (.int .i64 N) ∧ wq.cell? ⟨W.heap.size, 4, none⟩ = some (.string (S2.B S))))
      clear h hb hX hsz HB1 HA HB
      generalize w1.heap.size = p at *
      go_wp2_with fail
      refine (few_any X l A m c HM.out HM2.out w2 (AS.out.fr FR.out)).mono ?_
      rintro e w3 ⟨rfl, k, hk⟩
      have hb3 : Below w2.heap.size w2 w3 := by rw [hk]; exact ⟨rfl, rfl, rfl, Nat.le_refl _, fun _ _ => rfl⟩
      replace FR := Lib.hid (FR.out.trans (Fr.of_below hb3 H.out.lt))
      replace H := Lib.hid (H.out.step hb3)
      clear hk hb3
      rw [HF.out]
      obtain ⟨a1, a2, a3, a4⟩ := BX.out _ FR.out
      go_wp2
      clear a1 a2 a3 a4
      go_loopw [7] (fun vi wr => ∃ (i : Nat) (D : MD), vi = .int .i64 (i : Int) ∧ i ≤ m ∧ Dk X wr p D ∧ Fr X W1 wr) (fun vi _ => m - (intOf vi).toNat)
      case atStart => exact ⟨0, _, rfl, by omega, H.out, FR.out⟩
      case round =>
        clear H FR
        obtain ⟨i, D, rfl, him, h, f⟩ := hrel
        have H := Lib.hid h
        have FR := Lib.hid f
        clear h f
        by_cases hlt : i < m
        · have hltI : (i : Int) < m := by omega
          have hil : i < l.length := by rw [← HM.out]; exact hlt
          obtain ⟨ad, rfl, _, hc⟩ := (AS.out.fr FR.out).at_ hil
          have hin := (AS.out.fr FR.out).each l[i] (List.getElem_mem hil)
          have hw := weight_mem (List.getElem_mem hil)
          generalize l[i] = b at *
          have HC := Lib.hid hc
          have HIN := Lib.hid hin
          have HIM := Lib.hid hlt
          have HSB := Lib.hid (show b.S.length ≤ 1000000000 by have := HWT.out; omega)
          clear hc hin hw hil hlt
          go_wp2_with (refine wpList_load_part rfl 30 _ rfl (ad.add (i * 6)) rfl b.cells _ HC.out Try.underlying30 rfl (by kernel_rfl) ?_)
          go_wp2_with fail
          refine (do_any X p D b _ rfl HSB.out _ HIN.out H.out).mono ?_
          rintro e w4 ⟨rfl, h, f⟩
          replace H := Lib.hid h
          replace FR := Lib.hid (FR.out.trans f)
          clear h f
          go_wp2
          go_roundw
          case rel => exact ⟨i + 1, _, by go_num, by have := HIM.out; omega, H.out, FR.out⟩
          case measure => simp [intOf]; have := HIM.out; omega
        · have hge : ¬ (i : Int) < m := by omega
          go_wp2_with fail
          refine (Arm_any X p D 0 (by unfold isI; omega) [] none 0 0 rfl (fun x hx => by cases hx) _ (Rz.nil _ _ _) H.out).mono ?_
          rintro e v1 ⟨rfl, h, f⟩
          replace H := Lib.hid h
          replace FR := Lib.hid (FR.out.trans f)
          clear h f
          go_wp2_with fail
          refine (start_any X p _ _ H.out).mono ?_
          rintro e v2 ⟨rfl, h, f⟩
          replace H := Lib.hid h
          replace FR := Lib.hid (FR.out.trans f)
          clear h f
          have ID := Lib.hid (idle_new D)
          generalize (D.arm 0 []).start = D1 at *
          obtain ⟨a1, a2, a3, a4⟩ := BX.out _ FR.out
          by_cases hlo : F < 0
          · have HBAD := Lib.hid (show isF F = false by unfold isF; rw [decide_eq_false (by omega)]; rfl)
            go_wp2_with fail
            refine (Append_any X p D1 F S HS.out _ H.out).mono ?_
            rintro e v3 ⟨rfl, h, f⟩
            rw [bad_app ID.out HBAD.out S] at h ⊢
            replace H := Lib.hid h
            replace FR := Lib.hid (FR.out.trans f)
            clear h f
            clear a1 a2 a3 a4
            obtain ⟨b1, b2, b3, b4⟩ := BX.out _ FR.out
            go_wp2_with fail
            refine (Flush_any X p D1 F _ H.out).mono ?_
            rintro e v4 ⟨rfl, h, f⟩
            rw [bad_flush ID.out HBAD.out] at h ⊢
            replace H := Lib.hid h
            replace FR := Lib.hid (FR.out.trans f)
            clear h f
            clear b1 b2 b3 b4
            obtain ⟨c1, c2, c3, c4⟩ := BX.out _ FR.out
            go_wp2_with fail
            refine (Cut_any X p D1 F 0 _ H.out).mono ?_
            rintro e v5 ⟨rfl, h, f⟩
            rw [bad_cut ID.out HBAD.out 0] at h ⊢
            replace H := Lib.hid h
            replace FR := Lib.hid (FR.out.trans f)
            clear h f
            clear c1 c2 c3 c4
            obtain ⟨d1, d2, d3, d4⟩ := BX.out _ FR.out
            go_wp2_with fail
            refine (Turn_any X p D1 F 1 _ H.out).mono ?_
            rintro e v6 ⟨rfl, h, f⟩
            rw [bad_turn ID.out (show (isF F && isF 1) = false by rw [HBAD.out]; rfl)] at h ⊢
            replace H := Lib.hid h
            replace FR := Lib.hid (FR.out.trans f)
            clear h f
            clear d1 d2 d3 d4
            obtain ⟨e1, e2, e3, e4⟩ := BX.out _ FR.out
            go_wp2_with fail
            refine (Turn_any X p D1 1 F _ H.out).mono ?_
            rintro e v7 ⟨rfl, h, f⟩
            rw [bad_turn ID.out (show (isF 1 && isF F) = false by rw [HBAD.out]; rfl)] at h ⊢
            replace H := Lib.hid h
            replace FR := Lib.hid (FR.out.trans f)
            clear h f
            clear e1 e2 e3 e4
            obtain ⟨f1, f2, f3, f4⟩ := BX.out _ FR.out
            go_wp2_with fail
            refine (size_any X p D1 F _ H.out).mono ?_
            rintro e vz ⟨rfl, hq⟩
            obtain rfl := hq
            rw [bad_size D1 HBAD.out]
            clear f1 f2 f3 f4
            go_wp2_with fail
            refine (Crash_any X p D1 [] none 0 0 rfl (fun x hx => by cases hx) _ (Rz.nil _ _ _) H.out).mono ?_
            rintro e u1 ⟨rfl, h, f⟩
            have OFF := Lib.hid (crash_off D1 [])
            generalize D1.Crash [] = D2 at *
            replace H := Lib.hid h
            replace FR := Lib.hid (FR.out.trans f)
            clear h f ID
            go_wp2_with fail
            refine (Copy_any X p D2 u1 H.out).mono ?_
            rintro e u2 ⟨rfl, hc, hb⟩
            have TW := Lib.hid (Two.copied H.out hc hb).1
            replace FR := Lib.hid (FR.out.trans (Two.copied H.out hc hb).2)
            clear hc hb H
            generalize u1.heap.size = q at *
            go_wp2_with fail
            refine (TW.out.second (fun Y hy => start_any Y q D2 _ hy)).mono ?_
            rintro e v8 ⟨rfl, h, f⟩
            replace TW := Lib.hid h
            replace FR := Lib.hid (FR.out.trans f)
            clear h f
            obtain ⟨g1, g2, g3, g4⟩ := BX.out _ FR.out
            go_wp2_with fail
            refine (TW.out.first (fun Y hy _ => Read_any Y p D2 F _ hy)).mono ?_
            rintro e v9 ⟨rfl, h, f⟩
            rw [off_read OFF.out F] 
            replace TW := Lib.hid h
            replace FR := Lib.hid (FR.out.trans f)
            clear h f
            clear g1 g2 g3 g4
            go_wp2_with fail
            refine (TW.out.first (fun Y hy _ => crash_lit Y p D2 1 1 (by unfold isI; omega) (by unfold isI; omega) _ hy)).mono ?_
            rintro e v10 ⟨rfl, h, f⟩
            rw [off_crash OFF.out [1, 1]] at h
            replace TW := Lib.hid h
            replace FR := Lib.hid (FR.out.trans f)
            clear h f
            obtain ⟨h1, h2, h3, h4⟩ := BX.out _ FR.out
            go_wp2_with fail
            refine (TW.out.first (fun Y hy _ => Append_any Y p D2 F S HS.out _ hy)).mono ?_
            rintro e v11 ⟨rfl, h, f⟩
            rw [off_app OFF.out F S] at h ⊢
            replace TW := Lib.hid h
            replace FR := Lib.hid (FR.out.trans f)
            clear h f
            clear h1 h2 h3 h4
            obtain ⟨i1, i2, i3, i4⟩ := BX.out _ FR.out
            go_wp2_with fail
            refine (TW.out.first (fun Y hy _ => Flush_any Y p D2 F _ hy)).mono ?_
            rintro e v12 ⟨rfl, h, f⟩
            rw [off_flush OFF.out F] at h ⊢
            replace TW := Lib.hid h
            replace FR := Lib.hid (FR.out.trans f)
            clear h f
            clear i1 i2 i3 i4
            obtain ⟨j1, j2, j3, j4⟩ := BX.out _ FR.out
            go_wp2_with fail
            refine (TW.out.first (fun Y hy _ => Cut_any Y p D2 F N _ hy)).mono ?_
            rintro e v13 ⟨rfl, h, f⟩
            rw [off_cut OFF.out F N] at h ⊢
            replace TW := Lib.hid h
            replace FR := Lib.hid (FR.out.trans f)
            clear h f
            clear j1 j2 j3 j4
            obtain ⟨k1, k2, k3, k4⟩ := BX.out _ FR.out
            go_wp2_with fail
            refine (TW.out.first (fun Y hy _ => Turn_any Y p D2 F G _ hy)).mono ?_
            rintro e v14 ⟨rfl, h, f⟩
            rw [off_turn OFF.out F G] at h ⊢
            replace TW := Lib.hid h
            replace FR := Lib.hid (FR.out.trans f)
            clear h f
            clear k1 k2 k3 k4
            obtain ⟨n1, n2, n3, n4⟩ := BX.out _ FR.out
            clear n1 n2 n3 n4
            have HD0 := TW.out
            obtain ⟨Z0, _, _, hd0, _⟩ := HD0
            go_wp2_with fail
            refine (down_any _ p D2 _ hd0).mono ?_
            rintro e u9 ⟨rfl, hq⟩
            obtain rfl := hq
            rw [OFF.out]
            clear hd0
            go_wp2_with fail
            refine (TW.out.first (fun Y hy _ => start_any Y p D2 _ hy)).mono ?_
            rintro e v15 ⟨rfl, h, f⟩
            replace TW := Lib.hid h
            replace FR := Lib.hid (FR.out.trans f)
            clear h f
            go_wp2
            go_loopw [11] (fun vi wr => ∃ i : Nat, vi = .int .i64 (i : Int) ∧ i ≤ 8 ∧ Two X wr p D2.start q D2.start ∧ Fr X W1 wr) (fun vi _ => 8 - (intOf vi).toNat)
            case atStart => exact ⟨0, rfl, by omega, TW.out, FR.out⟩
            case round =>
              clear TW FR
              obtain ⟨i, rfl, hi8, h, f⟩ := hrel
              have TW := Lib.hid h
              have FR := Lib.hid f
              clear h f
              by_cases hlt8 : i < 8
              · have hlt8I : (i : Int) < 8 := by omega
                go_wp2_with fail
                refine (TW.out.first (fun Y hy _ => Read_any Y p D2.start (i : Int) _ hy)).mono ?_
                rintro e v16 ⟨rfl, h, f⟩
                replace TW := Lib.hid h
                replace FR := Lib.hid (FR.out.trans f)
                clear h f
                go_wp2_with fail
                refine (TW.out.second (fun Y hy => Read_any Y q D2.start (i : Int) _ hy)).mono ?_
                rintro e v17 ⟨rfl, h, f⟩
                replace TW := Lib.hid h
                replace FR := Lib.hid (FR.out.trans f)
                clear h f
                generalize (D2.start.read (i : Int)).1 = rs at *
                generalize (D2.start.read (i : Int)).2 = re at *
                go_wp2
                go_roundw
                case rel => exact ⟨i + 1, by go_num, by omega, TW.out, FR.out⟩
                case measure => simp [intOf]; omega
              · have hge8 : ¬ (i : Int) < 8 := by omega
                have HD0 := TW.out
                obtain ⟨Z0, _, _, hd0, _⟩ := HD0
                go_wp2_with fail
                refine (down_any _ p D2.start _ hd0).mono ?_
                rintro e u9 ⟨rfl, hq⟩
                obtain rfl := hq
                rw [show D2.start.down = false from rfl]
                clear hd0
                go_wp2
                go_ret
                exact ⟨rfl, HBW.out.trans ((FR.out.below (fun k hk => by rw [HX.out]; exact hk)).mono HSZ.out)⟩
          · by_cases hhi : 7 < F
            · have HBAD := Lib.hid (show isF F = false by unfold isF; rw [decide_eq_false (p := F < 8) (by omega), Bool.and_false])
              have hlo' : 0 ≤ F := by omega
              go_wp2_with fail
              refine (Append_any X p D1 F S HS.out _ H.out).mono ?_
              rintro e v18 ⟨rfl, h, f⟩
              rw [bad_app ID.out HBAD.out S] at h ⊢
              replace H := Lib.hid h
              replace FR := Lib.hid (FR.out.trans f)
              clear h f
              clear a1 a2 a3 a4
              obtain ⟨b1, b2, b3, b4⟩ := BX.out _ FR.out
              go_wp2_with fail
              refine (Flush_any X p D1 F _ H.out).mono ?_
              rintro e v19 ⟨rfl, h, f⟩
              rw [bad_flush ID.out HBAD.out] at h ⊢
              replace H := Lib.hid h
              replace FR := Lib.hid (FR.out.trans f)
              clear h f
              clear b1 b2 b3 b4
              obtain ⟨c1, c2, c3, c4⟩ := BX.out _ FR.out
              go_wp2_with fail
              refine (Cut_any X p D1 F 0 _ H.out).mono ?_
              rintro e v20 ⟨rfl, h, f⟩
              rw [bad_cut ID.out HBAD.out 0] at h ⊢
              replace H := Lib.hid h
              replace FR := Lib.hid (FR.out.trans f)
              clear h f
              clear c1 c2 c3 c4
              obtain ⟨d1, d2, d3, d4⟩ := BX.out _ FR.out
              go_wp2_with fail
              refine (Turn_any X p D1 F 1 _ H.out).mono ?_
              rintro e v21 ⟨rfl, h, f⟩
              rw [bad_turn ID.out (show (isF F && isF 1) = false by rw [HBAD.out]; rfl)] at h ⊢
              replace H := Lib.hid h
              replace FR := Lib.hid (FR.out.trans f)
              clear h f
              clear d1 d2 d3 d4
              obtain ⟨e1, e2, e3, e4⟩ := BX.out _ FR.out
              go_wp2_with fail
              refine (Turn_any X p D1 1 F _ H.out).mono ?_
              rintro e v22 ⟨rfl, h, f⟩
              rw [bad_turn ID.out (show (isF 1 && isF F) = false by rw [HBAD.out]; rfl)] at h ⊢
              replace H := Lib.hid h
              replace FR := Lib.hid (FR.out.trans f)
              clear h f
              clear e1 e2 e3 e4
              obtain ⟨f1, f2, f3, f4⟩ := BX.out _ FR.out
              go_wp2_with fail
              refine (size_any X p D1 F _ H.out).mono ?_
              rintro e vz ⟨rfl, hq⟩
              obtain rfl := hq
              rw [bad_size D1 HBAD.out]
              clear f1 f2 f3 f4
              go_wp2_with fail
              refine (Crash_any X p D1 [] none 0 0 rfl (fun x hx => by cases hx) _ (Rz.nil _ _ _) H.out).mono ?_
              rintro e u1 ⟨rfl, h, f⟩
              have OFF := Lib.hid (crash_off D1 [])
              generalize D1.Crash [] = D2 at *
              replace H := Lib.hid h
              replace FR := Lib.hid (FR.out.trans f)
              clear h f ID
              go_wp2_with fail
              refine (Copy_any X p D2 u1 H.out).mono ?_
              rintro e u2 ⟨rfl, hc, hb⟩
              have TW := Lib.hid (Two.copied H.out hc hb).1
              replace FR := Lib.hid (FR.out.trans (Two.copied H.out hc hb).2)
              clear hc hb H
              generalize u1.heap.size = q at *
              go_wp2_with fail
              refine (TW.out.second (fun Y hy => start_any Y q D2 _ hy)).mono ?_
              rintro e v23 ⟨rfl, h, f⟩
              replace TW := Lib.hid h
              replace FR := Lib.hid (FR.out.trans f)
              clear h f
              obtain ⟨g1, g2, g3, g4⟩ := BX.out _ FR.out
              go_wp2_with fail
              refine (TW.out.first (fun Y hy _ => Read_any Y p D2 F _ hy)).mono ?_
              rintro e v24 ⟨rfl, h, f⟩
              rw [off_read OFF.out F] 
              replace TW := Lib.hid h
              replace FR := Lib.hid (FR.out.trans f)
              clear h f
              clear g1 g2 g3 g4
              go_wp2_with fail
              refine (TW.out.first (fun Y hy _ => crash_lit Y p D2 1 1 (by unfold isI; omega) (by unfold isI; omega) _ hy)).mono ?_
              rintro e v25 ⟨rfl, h, f⟩
              rw [off_crash OFF.out [1, 1]] at h
              replace TW := Lib.hid h
              replace FR := Lib.hid (FR.out.trans f)
              clear h f
              obtain ⟨h1, h2, h3, h4⟩ := BX.out _ FR.out
              go_wp2_with fail
              refine (TW.out.first (fun Y hy _ => Append_any Y p D2 F S HS.out _ hy)).mono ?_
              rintro e v26 ⟨rfl, h, f⟩
              rw [off_app OFF.out F S] at h ⊢
              replace TW := Lib.hid h
              replace FR := Lib.hid (FR.out.trans f)
              clear h f
              clear h1 h2 h3 h4
              obtain ⟨i1, i2, i3, i4⟩ := BX.out _ FR.out
              go_wp2_with fail
              refine (TW.out.first (fun Y hy _ => Flush_any Y p D2 F _ hy)).mono ?_
              rintro e v27 ⟨rfl, h, f⟩
              rw [off_flush OFF.out F] at h ⊢
              replace TW := Lib.hid h
              replace FR := Lib.hid (FR.out.trans f)
              clear h f
              clear i1 i2 i3 i4
              obtain ⟨j1, j2, j3, j4⟩ := BX.out _ FR.out
              go_wp2_with fail
              refine (TW.out.first (fun Y hy _ => Cut_any Y p D2 F N _ hy)).mono ?_
              rintro e v28 ⟨rfl, h, f⟩
              rw [off_cut OFF.out F N] at h ⊢
              replace TW := Lib.hid h
              replace FR := Lib.hid (FR.out.trans f)
              clear h f
              clear j1 j2 j3 j4
              obtain ⟨k1, k2, k3, k4⟩ := BX.out _ FR.out
              go_wp2_with fail
              refine (TW.out.first (fun Y hy _ => Turn_any Y p D2 F G _ hy)).mono ?_
              rintro e v29 ⟨rfl, h, f⟩
              rw [off_turn OFF.out F G] at h ⊢
              replace TW := Lib.hid h
              replace FR := Lib.hid (FR.out.trans f)
              clear h f
              clear k1 k2 k3 k4
              obtain ⟨n1, n2, n3, n4⟩ := BX.out _ FR.out
              clear n1 n2 n3 n4
              have HD0 := TW.out
              obtain ⟨Z0, _, _, hd0, _⟩ := HD0
              go_wp2_with fail
              refine (down_any _ p D2 _ hd0).mono ?_
              rintro e u9 ⟨rfl, hq⟩
              obtain rfl := hq
              rw [OFF.out]
              clear hd0
              go_wp2_with fail
              refine (TW.out.first (fun Y hy _ => start_any Y p D2 _ hy)).mono ?_
              rintro e v30 ⟨rfl, h, f⟩
              replace TW := Lib.hid h
              replace FR := Lib.hid (FR.out.trans f)
              clear h f
              go_wp2
              go_loopw [11] (fun vi wr => ∃ i : Nat, vi = .int .i64 (i : Int) ∧ i ≤ 8 ∧ Two X wr p D2.start q D2.start ∧ Fr X W1 wr) (fun vi _ => 8 - (intOf vi).toNat)
              case atStart => exact ⟨0, rfl, by omega, TW.out, FR.out⟩
              case round =>
                clear TW FR
                obtain ⟨i, rfl, hi8, h, f⟩ := hrel
                have TW := Lib.hid h
                have FR := Lib.hid f
                clear h f
                by_cases hlt8 : i < 8
                · have hlt8I : (i : Int) < 8 := by omega
                  go_wp2_with fail
                  refine (TW.out.first (fun Y hy _ => Read_any Y p D2.start (i : Int) _ hy)).mono ?_
                  rintro e v31 ⟨rfl, h, f⟩
                  replace TW := Lib.hid h
                  replace FR := Lib.hid (FR.out.trans f)
                  clear h f
                  go_wp2_with fail
                  refine (TW.out.second (fun Y hy => Read_any Y q D2.start (i : Int) _ hy)).mono ?_
                  rintro e v32 ⟨rfl, h, f⟩
                  replace TW := Lib.hid h
                  replace FR := Lib.hid (FR.out.trans f)
                  clear h f
                  generalize (D2.start.read (i : Int)).1 = rs at *
                  generalize (D2.start.read (i : Int)).2 = re at *
                  go_wp2
                  go_roundw
                  case rel => exact ⟨i + 1, by go_num, by omega, TW.out, FR.out⟩
                  case measure => simp [intOf]; omega
                · have hge8 : ¬ (i : Int) < 8 := by omega
                  have HD0 := TW.out
                  obtain ⟨Z0, _, _, hd0, _⟩ := HD0
                  go_wp2_with fail
                  refine (down_any _ p D2.start _ hd0).mono ?_
                  rintro e u9 ⟨rfl, hq⟩
                  obtain rfl := hq
                  rw [show D2.start.down = false from rfl]
                  clear hd0
                  go_wp2
                  go_ret
                  exact ⟨rfl, HBW.out.trans ((FR.out.below (fun k hk => by rw [HX.out]; exact hk)).mono HSZ.out)⟩
            · have hlo' : 0 ≤ F := by omega
              have hhi' : F ≤ 7 := by omega
              go_wp2_with fail
              clear a1 a2 a3 a4
              refine (Crash_any X p D1 [] none 0 0 rfl (fun x hx => by cases hx) _ (Rz.nil _ _ _) H.out).mono ?_
              rintro e u1 ⟨rfl, h, f⟩
              have OFF := Lib.hid (crash_off D1 [])
              generalize D1.Crash [] = D2 at *
              replace H := Lib.hid h
              replace FR := Lib.hid (FR.out.trans f)
              clear h f ID
              go_wp2_with fail
              refine (Copy_any X p D2 u1 H.out).mono ?_
              rintro e u2 ⟨rfl, hc, hb⟩
              have TW := Lib.hid (Two.copied H.out hc hb).1
              replace FR := Lib.hid (FR.out.trans (Two.copied H.out hc hb).2)
              clear hc hb H
              generalize u1.heap.size = q at *
              go_wp2_with fail
              refine (TW.out.second (fun Y hy => start_any Y q D2 _ hy)).mono ?_
              rintro e v33 ⟨rfl, h, f⟩
              replace TW := Lib.hid h
              replace FR := Lib.hid (FR.out.trans f)
              clear h f
              obtain ⟨g1, g2, g3, g4⟩ := BX.out _ FR.out
              go_wp2_with fail
              refine (TW.out.first (fun Y hy _ => Read_any Y p D2 F _ hy)).mono ?_
              rintro e v34 ⟨rfl, h, f⟩
              rw [off_read OFF.out F] 
              replace TW := Lib.hid h
              replace FR := Lib.hid (FR.out.trans f)
              clear h f
              clear g1 g2 g3 g4
              go_wp2_with fail
              refine (TW.out.first (fun Y hy _ => crash_lit Y p D2 1 1 (by unfold isI; omega) (by unfold isI; omega) _ hy)).mono ?_
              rintro e v35 ⟨rfl, h, f⟩
              rw [off_crash OFF.out [1, 1]] at h
              replace TW := Lib.hid h
              replace FR := Lib.hid (FR.out.trans f)
              clear h f
              obtain ⟨h1, h2, h3, h4⟩ := BX.out _ FR.out
              go_wp2_with fail
              refine (TW.out.first (fun Y hy _ => Append_any Y p D2 F S HS.out _ hy)).mono ?_
              rintro e v36 ⟨rfl, h, f⟩
              rw [off_app OFF.out F S] at h ⊢
              replace TW := Lib.hid h
              replace FR := Lib.hid (FR.out.trans f)
              clear h f
              clear h1 h2 h3 h4
              obtain ⟨i1, i2, i3, i4⟩ := BX.out _ FR.out
              go_wp2_with fail
              refine (TW.out.first (fun Y hy _ => Flush_any Y p D2 F _ hy)).mono ?_
              rintro e v37 ⟨rfl, h, f⟩
              rw [off_flush OFF.out F] at h ⊢
              replace TW := Lib.hid h
              replace FR := Lib.hid (FR.out.trans f)
              clear h f
              clear i1 i2 i3 i4
              obtain ⟨j1, j2, j3, j4⟩ := BX.out _ FR.out
              go_wp2_with fail
              refine (TW.out.first (fun Y hy _ => Cut_any Y p D2 F N _ hy)).mono ?_
              rintro e v38 ⟨rfl, h, f⟩
              rw [off_cut OFF.out F N] at h ⊢
              replace TW := Lib.hid h
              replace FR := Lib.hid (FR.out.trans f)
              clear h f
              clear j1 j2 j3 j4
              obtain ⟨k1, k2, k3, k4⟩ := BX.out _ FR.out
              go_wp2_with fail
              refine (TW.out.first (fun Y hy _ => Turn_any Y p D2 F G _ hy)).mono ?_
              rintro e v39 ⟨rfl, h, f⟩
              rw [off_turn OFF.out F G] at h ⊢
              replace TW := Lib.hid h
              replace FR := Lib.hid (FR.out.trans f)
              clear h f
              clear k1 k2 k3 k4
              obtain ⟨n1, n2, n3, n4⟩ := BX.out _ FR.out
              clear n1 n2 n3 n4
              have HD0 := TW.out
              obtain ⟨Z0, _, _, hd0, _⟩ := HD0
              go_wp2_with fail
              refine (down_any _ p D2 _ hd0).mono ?_
              rintro e u9 ⟨rfl, hq⟩
              obtain rfl := hq
              rw [OFF.out]
              clear hd0
              go_wp2_with fail
              refine (TW.out.first (fun Y hy _ => start_any Y p D2 _ hy)).mono ?_
              rintro e v40 ⟨rfl, h, f⟩
              replace TW := Lib.hid h
              replace FR := Lib.hid (FR.out.trans f)
              clear h f
              go_wp2
              go_loopw [11] (fun vi wr => ∃ i : Nat, vi = .int .i64 (i : Int) ∧ i ≤ 8 ∧ Two X wr p D2.start q D2.start ∧ Fr X W1 wr) (fun vi _ => 8 - (intOf vi).toNat)
              case atStart => exact ⟨0, rfl, by omega, TW.out, FR.out⟩
              case round =>
                clear TW FR
                obtain ⟨i, rfl, hi8, h, f⟩ := hrel
                have TW := Lib.hid h
                have FR := Lib.hid f
                clear h f
                by_cases hlt8 : i < 8
                · have hlt8I : (i : Int) < 8 := by omega
                  go_wp2_with fail
                  refine (TW.out.first (fun Y hy _ => Read_any Y p D2.start (i : Int) _ hy)).mono ?_
                  rintro e v41 ⟨rfl, h, f⟩
                  replace TW := Lib.hid h
                  replace FR := Lib.hid (FR.out.trans f)
                  clear h f
                  go_wp2_with fail
                  refine (TW.out.second (fun Y hy => Read_any Y q D2.start (i : Int) _ hy)).mono ?_
                  rintro e v42 ⟨rfl, h, f⟩
                  replace TW := Lib.hid h
                  replace FR := Lib.hid (FR.out.trans f)
                  clear h f
                  generalize (D2.start.read (i : Int)).1 = rs at *
                  generalize (D2.start.read (i : Int)).2 = re at *
                  go_wp2
                  go_roundw
                  case rel => exact ⟨i + 1, by go_num, by omega, TW.out, FR.out⟩
                  case measure => simp [intOf]; omega
                · have hge8 : ¬ (i : Int) < 8 := by omega
                  have HD0 := TW.out
                  obtain ⟨Z0, _, _, hd0, _⟩ := HD0
                  go_wp2_with fail
                  refine (down_any _ p D2.start _ hd0).mono ?_
                  rintro e u9 ⟨rfl, hq⟩
                  obtain rfl := hq
                  rw [show D2.start.down = false from rfl]
                  clear hd0
                  go_wp2
                  go_ret
                  exact ⟨rfl, HBW.out.trans ((FR.out.below (fun k hk => by rw [HX.out]; exact hk)).mono HSZ.out)⟩
    · have hsI : (100000 : Int) < S.length := by omega
      go_enter Try.func4, Try.ntmps4
      go_wp2_with fail
      rw [← HW1.out]
      refine (small_any W1).mono ?_
      rintro e w1 ⟨rfl, hb1⟩
      have HB1 := Lib.hid hb1
      clear hb1
      go_wp2_with fail
      refine (New_any w1).mono ?_
      rintro e w2 ⟨rfl, h, hb⟩
      obtain ⟨X, hX⟩ : ∃ X, X = fun k => k < W1.heap.size := ⟨_, rfl⟩
      have HX := Lib.hid hX
      have hsz := HB1.out.size
      have H := Lib.hid (show Dk X w2 w1.heap.size MD.new from h.weaken (fun k hk => by rw [hX] at hk; omega))
      have FR := Lib.hid (show Fr X W1 w2 from Fr.of_below (HB1.out.trans (hb.mono hsz)) (fun k hk => by rw [hX] at hk; exact hk))
      have HXB := Lib.hid (show X W.heap.size by rw [hX, HW1.out]; simp)
      have AS := Lib.hid (show As X W1 A l by rw [hX]; exact HA.out)
      have BX := Lib.hid (fun wq (hq : Fr X W1 wq) => (⟨(hq.cell (p := ⟨W.heap.size, 1, none⟩) HXB.out).trans HB.out.1, (hq.cell (p := ⟨W.heap.size, 2, none⟩) HXB.out).trans HB.out.2.1, (hq.cell (p := ⟨W.heap.size, 3, none⟩) HXB.out).trans HB.out.2.2.1, (hq.cell (p := ⟨W.heap.size, 4, none⟩) HXB.out).trans HB.out.2.2.2⟩ : wq.cell? ⟨W.heap.size, 1, none⟩ = some (.int .i64 F) ∧ wq.cell? ⟨W.heap.size, 2, none⟩ = some (.int .i64 G) ∧ wq.cell? ⟨W.heap.size, 3, none⟩ = some (.int .i64 N) ∧ wq.cell? ⟨W.heap.size, 4, none⟩ = some (.string (S2.B S))))
      clear h hb hX hsz HB1 HA HB
      generalize w1.heap.size = p at *
      go_wp2_with fail
      refine (few_any X l A m c HM.out HM2.out w2 (AS.out.fr FR.out)).mono ?_
      rintro e w3 ⟨rfl, k, hk⟩
      have hb3 : Below w2.heap.size w2 w3 := by rw [hk]; exact ⟨rfl, rfl, rfl, Nat.le_refl _, fun _ _ => rfl⟩
      replace FR := Lib.hid (FR.out.trans (Fr.of_below hb3 H.out.lt))
      replace H := Lib.hid (H.out.step hb3)
      clear hk hb3
      rw [HF.out]
      obtain ⟨a1, a2, a3, a4⟩ := BX.out _ FR.out
      go_wp2
      go_ret
      exact ⟨rfl, HBW.out.trans ((FR.out.below (fun k hk => by rw [HX.out]; exact hk)).mono HSZ.out)⟩
end Dk
end Go.Proofs.Ytbappmnaaeihfaa
