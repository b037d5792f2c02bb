/-
  Layer 10: WalAlone's walk.
-/
import Derived.Test.YtihanhdepijijaaWalTwo
import Derived.Test.YtihanhdepijijaaWalArgs
import Derived.Test.YtihanhdepijijaaWalAppG
import Derived.Test.YtihanhdepijijaaWalSmall
namespace Go.Proofs.Ytihanhdepijijaa
open Go.RowKit Go.ChangeShapes Go.WideShapes Go.Deep
namespace Wl
open S9.Dk (Dk Fr MD By isI)
attribute [local go_sem] S2.B_size S2.B_list S2.B_take S2.B_app
theorem open_cap {H : Type} {enc : TypeId × Value → H} {w : World} {fuel : Nat} {A : Option Addr} {n c : Nat} {x : DataW H × List MemPlace} (h : DataW.trod enc Try.prog w 0 (fun _ => true) true fuel 32 [.slice A n c] = some x) : n ≤ c := by
  rcases open_strs Try.underlying32 Try.underlying9 cells_str h with ⟨hc, _⟩ | ⟨a, len, cap, m, Sx, hc, _, hl, _⟩
  · injection hc with hc _
    cases hc
    exact Nat.le_refl _
  · injection hc with hc _
    cases hc
    exact hl
theorem open_strs_c {H : Type} {enc : TypeId × Value → H} {w : World} {fuel : Nat} {v : Value} {x : DataW H × List MemPlace} (h : DataW.trod enc Try.prog w 0 (fun _ => true) true fuel 32 [v] = some x) (hz : ∀ n ∈ x.1.weights Try.prog 32, n ≤ reachBytes) :
    ∃ (A : Option Addr) (cap : Nat) (l : List Str), v = .slice A l.length cap ∧ Rx (fun k => k < w.heap.size) w A l ∧ l.length ≤ 140737488355328 ∧ (∀ s ∈ l, s.length ≤ 281474976710656) ∧ l.length ≤ cap := by
  obtain ⟨A, cap, l, hv, h1, h2, h3⟩ := open_strs_ h hz
  subst hv
  exact ⟨A, cap, l, rfl, h1, h2, h3, open_cap h⟩
/-- What stays in the law's loop. -/
structure Pair (X : Nat → Prop) (W w : World) (p x y : Nat) (Al : Option Addr) (l : List Str) (Am : Option Addr) (m : List Str) (R M : List Str) (D : MD) : Prop where
  al : Wl.Al D R M
  two : Two X w p x 0 R y 2 M D
  ca : Ca X X W w
  rl : Rx X w Al l
  rm : Rx X w Am m
theorem Pair.append {X : Nat → Prop} {W w : World} {p x y : Nat} {A A' : Option Addr} {l m R M : List Str} {D : MD} {s : Str} (h : Pair X W w p x y A l A' m R M D) (hs : s.length ≤ 1500) (hR : R.length ≤ 30) (hr : ∀ t ∈ R, t.length ≤ 1500) :
    Calls Try.prog 23 #[ptr x, .string (S2.B s)] w fun e w' => e = .returned (.int .i64 0) ∧ ∃ D', Pair X W w' p x y A l A' m (R ++ [s]) M D' := by
  have hl := records_le hr
  have hl2 : R.length * (1500 + 13) ≤ 30 * 1513 := Nat.mul_le_mul hR (by omega)
  have hrl := record_le s
  obtain ⟨e1, a1⟩ := alone_app h.al (show okRow s by unfold okRow; omega) (by omega)
  refine (h.two.via (Q := fun e => e = .returned (.int .i64 0)) (R' := R ++ [s]) (D' := D.put 0 (record c4 s)) fun Y hd _ => ?_).mono ?_
  · refine (Append_any Y x p 0 R D s w hd (by omega) (by omega)).mono ?_
    rintro e w' ⟨rfl, h1, h2⟩
    rw [e1] at h1 ⊢
    exact ⟨rfl, h1, h2⟩
  · rintro e w' ⟨rfl, h1, h2⟩
    exact ⟨rfl, _, a1, h1, h.ca.next h2, h.rl.fr h2, h.rm.fr h2⟩
theorem Pair.rewrite {X : Nat → Prop} {W w : World} {p x y : Nat} {A A' : Option Addr} {l m R M : List Str} {D : MD} {k n c : Nat} (h : Pair X W w p x y A l A' m R M D) (hn : n = (m.take k).length) (hm : (m.take k).length ≤ 30) (hr : ∀ t ∈ m, t.length ≤ 1500) :
    Calls Try.prog 22 #[ptr y, .slice A' n c] w fun e w' => e = .returned (.int .i64 0) ∧ ∃ D', Pair X W w' p x y A l A' m R (m.take k) D' := by
  have hr2 : ∀ t ∈ m.take k, t.length ≤ 1500 := fun t ht => hr t (List.mem_of_mem_take ht)
  have hl := records_le hr2
  have hl2 : (m.take k).length * (1500 + 13) ≤ 30 * 1513 := Nat.mul_le_mul hm (by omega)
  obtain ⟨D', e1, a1⟩ := alone_rew h.al (okRows hr2) (by omega)
  refine (h.two.swap.via (Q := fun e => e = .returned (.int .i64 0)) (R' := m.take k) (D' := D') fun Y hd hY => ?_).mono ?_
  · refine (Rewrite_any Y y p 2 M D A' n c (m.take k) w hd (by decide) ((h.rm.take k).mono hY) hn (by omega) (fun t ht => by have := hr2 t ht; omega) (by omega)).mono ?_
    rintro e w' ⟨rfl, h1, h2⟩
    rw [e1] at h1 ⊢
    exact ⟨rfl, h1, h2⟩
  · rintro e w' ⟨rfl, h1, h2⟩
    exact ⟨rfl, _, a1, h1.swap, h.ca.next h2, h.rl.fr h2, h.rm.fr h2⟩
set_option maxHeartbeats 8000000 in
set_option maxRecDepth 100000 in
theorem alone_walk (l : List Str) (Al : Option Addr) (nl cl : Nat) (hnl : nl = l.length) (hnl2 : nl ≤ 140737488355328) (hll : ∀ s ∈ l, s.length ≤ 281474976710656) (m : List Str) (Am : Option Addr) (nm cm : Nat) (hnm : nm = m.length) (hnm2 : nm ≤ 140737488355328) (hlm : ∀ s ∈ m, s.length ≤ 281474976710656) (hcm : nm ≤ cm)
    (w : World) (hrl : Rx (fun k => k < w.heap.size) w Al l) (hrm : Rx (fun k => k < w.heap.size) w Am m) :
    Calls Try.prog 6 #[.slice Al nl cl, .slice Am nm cm] w fun e w' => e = .returned (.bool true) ∧ Below w.heap.size w w' := by
  obtain ⟨X0, hX0⟩ : ∃ X0 : Nat → Prop, X0 = fun k => k < w.heap.size := ⟨_, rfl⟩
  rw [← hX0] at hrl hrm
  have HX0 := Lib.hid (show ∀ k, k < w.heap.size → X0 k from fun k hk => by rw [hX0]; exact hk)
  have C := Lib.hid (show Ca X0 X0 w w by rw [hX0]; exact Ca.start w)
  have Rl := Lib.hid hrl
  have Rm := Lib.hid hrm
  have Nl := Lib.hid hnl
  have Nm := Lib.hid hnm
  have KS := Lib.hid (small_any w)
  have KBl := Lib.hid fun w (hr : S2.Row w w.heap.size Al (S2.Ss l)) => bytes_any Al l nl cl w hnl hr hnl2 hll
  have KBm := Lib.hid fun w (hr : S2.Row w w.heap.size Am (S2.Ss m)) => bytes_any Am m nm cm w hnm hr hnm2 hlm
  obtain ⟨bl, hbl⟩ : ∃ bl, bl = bytesV l := ⟨_, rfl⟩
  obtain ⟨bm, hbm⟩ : ∃ bm, bm = bytesV m := ⟨_, rfl⟩
  rw [← hbl] at KBl
  rw [← hbm] at KBm
  have HBl := Lib.hid hbl
  have HBm := Lib.hid hbm
  clear hrl hrm hnl hnm hbl hbm hll hlm hnl2 hnm2 hX0
  by_cases h1 : 1500 < bl
  · have h1' : (1500 : Int) < (bl : Int) := by omega
    clear h1
    go_enter Try.func6, Try.ntmps6
    go_wp2_with fail
    refine (KS.out).mono ?_
    rintro e w1 ⟨rfl, hb⟩
    have fb := Fr.of_below hb C.out.lt
    replace C := Lib.hid (C.out.next fb)
    replace Rl := Lib.hid (Rl.out.fr fb)
    replace Rm := Lib.hid (Rm.out.fr fb)
    clear fb
    clear hb
    go_wp2_with fail
    refine (KBl.out _ (Rl.out.row C.out.lt)).mono ?_
    rintro e wz ⟨rfl, rfl⟩
    clear KS KBl KBm
    go_wp2
    go_ret
    exact ⟨rfl, C.out.end_ HX0.out⟩
  have h1' : ¬ (1500 : Int) < (bl : Int) := by omega
  by_cases h2 : 1500 < bm
  · have h2' : (1500 : Int) < (bm : Int) := by omega
    clear h1 h2
    go_enter Try.func6, Try.ntmps6
    go_wp2_with fail
    refine (KS.out).mono ?_
    rintro e w1 ⟨rfl, hb⟩
    have fb := Fr.of_below hb C.out.lt
    replace C := Lib.hid (C.out.next fb)
    replace Rl := Lib.hid (Rl.out.fr fb)
    replace Rm := Lib.hid (Rm.out.fr fb)
    clear fb
    clear hb
    go_wp2_with fail
    refine (KBl.out _ (Rl.out.row C.out.lt)).mono ?_
    rintro e wz ⟨rfl, rfl⟩
    go_wp2_with fail
    refine (KBm.out _ (Rm.out.row C.out.lt)).mono ?_
    rintro e wz ⟨rfl, rfl⟩
    clear KS KBl KBm
    go_wp2
    go_ret
    exact ⟨rfl, C.out.end_ HX0.out⟩
  have h2' : ¬ (1500 : Int) < (bm : Int) := by omega
  obtain ⟨cl1, sl⟩ := bytes_small (l := l) (by rw [← HBl.out]; omega)
  obtain ⟨cm1, sm⟩ := bytes_small (l := m) (by rw [← HBm.out]; omega)
  have HSL := Lib.hid sl
  have HSM := Lib.hid sm
  have CL := Lib.hid cl1
  have CM := Lib.hid cm1
  have nlI : (nl : Int) ≤ 30 := by have := Nl.out; omega
  have nmI : (nm : Int) ≤ 30 := by have := Nm.out; omega
  have hcmI : (nm : Int) ≤ (cm : Int) := by omega
  have HCM := Lib.hid hcm
  obtain ⟨D1, D2, e1, e2, a0⟩ := alone_open
  have E1 := Lib.hid e1
  have E2 := Lib.hid e2
  have A0 := Lib.hid a0
  clear cl1 cm1 sl sm h1 h2 hcm e1 e2 a0
  go_enter Try.func6, Try.ntmps6
  go_wp2_with fail
  refine (KS.out).mono ?_
  rintro e w1 ⟨rfl, hb⟩
  have fb := Fr.of_below hb C.out.lt
  replace C := Lib.hid (C.out.next fb)
  replace Rl := Lib.hid (Rl.out.fr fb)
  replace Rm := Lib.hid (Rm.out.fr fb)
  clear fb
  clear hb
  go_wp2_with fail
  refine (KBl.out _ (Rl.out.row C.out.lt)).mono ?_
  rintro e wz ⟨rfl, rfl⟩
  go_wp2_with fail
  refine (KBm.out _ (Rm.out.row C.out.lt)).mono ?_
  rintro e wz ⟨rfl, rfl⟩
  clear KS KBl KBm
  go_wp2_with fail
  refine (S9.Dk.New_any _).mono ?_
  rintro e w2 ⟨rfl, h, hb⟩
  have L := Lib.hid (show Dk X0 w2 w1.heap.size MD.new from h.weaken fun k hk => C.out.lt k hk)
  have fb := Fr.of_below hb C.out.lt
  replace C := Lib.hid (C.out.next fb)
  replace Rl := Lib.hid (Rl.out.fr fb)
  replace Rm := Lib.hid (Rm.out.fr fb)
  clear fb
  obtain ⟨p, hp⟩ : ∃ p, p = w1.heap.size := ⟨_, rfl⟩
  rw [← hp] at L ⊢
  clear h hb hp
  go_wp2_with fail
  refine (Open_ok (f := 0) L.out E1.out).mono ?_
  rintro e w3 ⟨x, rfl, h, f⟩
  have fb := f
  replace C := Lib.hid (C.out.next fb)
  replace Rl := Lib.hid (Rl.out.fr fb)
  replace Rm := Lib.hid (Rm.out.fr fb)
  clear fb
  replace L := Lib.hid h
  clear h f E1
  go_wp2_with fail
  refine (Open_second (g := 2) L.out E2.out).mono ?_
  rintro e w4 ⟨y, rfl, h, f⟩
  have fb := f
  replace C := Lib.hid (C.out.next fb)
  replace Rl := Lib.hid (Rl.out.fr fb)
  replace Rm := Lib.hid (Rm.out.fr fb)
  clear fb
  have P0 := Lib.hid (show Pair X0 w w4 p x y Al l Am m (l.take 0) (m.take 0) D2 from ⟨A0.out, h.swap, C.out, Rl.out, Rm.out⟩)
  clear h f E2 A0 L C Rl Rm
  go_wp2_with fail
  go_loopw [11] (fun vi wr => ∃ (i : Nat) (D : MD), vi = .int .i64 (i : Int) ∧ i ≤ 30 ∧ Pair X0 w wr p x y Al l Am m (l.take i) (m.take i) D) (fun vi _ => 30 - (intOf vi).toNat)
  case atStart => exact ⟨0, D2, rfl, by omega, P0.out⟩
  case round =>
    obtain ⟨i, D, rfl, hi, hpr⟩ := hrel
    have P := Lib.hid hpr
    clear hpr P0
    by_cases hx : i < nl
    · have hxI : (i : Int) < (nl : Int) := by omega
      by_cases hy : i < nm
      · have hyI : (i : Int) < (nm : Int) := by omega
        have hil : i < l.length := by have := Nl.out; omega
        obtain ⟨ad, rfl, _, hcell⟩ := P.out.rl.at_ hil
        have hnx : l.take (i + 1) = l.take i ++ [l[i]] := List.take_succ_eq_append_getElem hil
        have hsl := HSL.out _ (List.getElem_mem hil)
        obtain ⟨s, hs⟩ : ∃ s, s = l[i] := ⟨_, rfl⟩
        rw [← hs] at hcell hnx hsl
        have KA := Lib.hid (P.out.append hsl (by rw [List.length_take]; have := CL.out; omega) (fun t ht => HSL.out t (List.mem_of_mem_take ht)))
        rw [← hnx] at KA
        clear hs hnx hsl hil
        go_wp2_with fail
        refine KA.out.mono ?_
        rintro e w5 ⟨rfl, D', hpr⟩
        replace P := Lib.hid hpr
        clear hpr KA hcell
        have hml : i < m.length := by have := Nm.out; omega
        have KR := Lib.hid (P.out.rewrite (k := i + 1) (n := i + 1) (c := cm) (by rw [List.length_take]; omega) (by rw [List.length_take]; have := CM.out; omega) HSM.out)
        clear hml
        go_wp2_with fail
        refine KR.out.mono ?_
        rintro e w6 ⟨rfl, D'', hpr⟩
        replace P := Lib.hid hpr
        clear hpr KR
        go_wp2
        go_roundw
        case rel => exact ⟨i + 1, _, by go_num, by omega, P.out⟩
        case measure => simp [intOf]; omega
      · have hyI : ¬ (i : Int) < (nm : Int) := by omega
        have hil : i < l.length := by have := Nl.out; omega
        obtain ⟨ad, rfl, _, hcell⟩ := P.out.rl.at_ hil
        have hnx : l.take (i + 1) = l.take i ++ [l[i]] := List.take_succ_eq_append_getElem hil
        have hsl := HSL.out _ (List.getElem_mem hil)
        obtain ⟨s, hs⟩ : ∃ s, s = l[i] := ⟨_, rfl⟩
        rw [← hs] at hcell hnx hsl
        have KA := Lib.hid (P.out.append hsl (by rw [List.length_take]; have := CL.out; omega) (fun t ht => HSL.out t (List.mem_of_mem_take ht)))
        rw [← hnx] at KA
        clear hs hnx hsl hil
        go_wp2_with fail
        refine KA.out.mono ?_
        rintro e w5 ⟨rfl, D', hpr⟩
        replace P := Lib.hid hpr
        clear hpr KA hcell
        have hny : m.take i = m.take (i + 1) := by rw [List.take_of_length_le (by have := Nm.out; omega), List.take_of_length_le (by have := Nm.out; omega)]
        have PP := P.out
        rw [hny] at PP
        replace P := Lib.hid PP
        clear hny PP
        go_wp2
        go_roundw
        case rel => exact ⟨i + 1, _, by go_num, by omega, P.out⟩
        case measure => simp [intOf]; omega
    · have hxI : ¬ (i : Int) < (nl : Int) := by omega
      by_cases hy : i < nm
      · have hyI : (i : Int) < (nm : Int) := by omega
        have hnx : l.take i = l.take (i + 1) := by rw [List.take_of_length_le (by have := Nl.out; omega), List.take_of_length_le (by have := Nl.out; omega)]
        replace P := Lib.hid (show Pair X0 w wr p x y Al l Am m (l.take (i + 1)) (m.take i) D by rw [← hnx]; exact P.out)
        clear hnx
        have hml : i < m.length := by have := Nm.out; omega
        have KR := Lib.hid (P.out.rewrite (k := i + 1) (n := i + 1) (c := cm) (by rw [List.length_take]; omega) (by rw [List.length_take]; have := CM.out; omega) HSM.out)
        clear hml
        go_wp2_with fail
        refine KR.out.mono ?_
        rintro e w6 ⟨rfl, D'', hpr⟩
        replace P := Lib.hid hpr
        clear hpr KR
        go_wp2
        go_roundw
        case rel => exact ⟨i + 1, _, by go_num, by omega, P.out⟩
        case measure => simp [intOf]; omega
      · have hyI : ¬ (i : Int) < (nm : Int) := by omega
        have hl1 : l.take i = l := List.take_of_length_le (by have := Nl.out; omega)
        have hm1 : m.take i = m := List.take_of_length_le (by have := Nm.out; omega)
        rw [hl1, hm1] at P
        obtain ⟨E1, E2, E3, E4, hdone⟩ := alone_done P.out.al (okRows HSL.out) (okRows HSM.out)
        have DN := Lib.hid hdone
        have C := Lib.hid P.out.ca
        have Rl := Lib.hid P.out.rl
        have Rm := Lib.hid P.out.rm
        have TW := Lib.hid P.out.two
        have SL := Lib.hid (show same l l = true from decide_eq_true rfl)
        have SM := Lib.hid (show same m m = true from decide_eq_true rfl)
        clear hl1 hm1 hdone P hx hy
        go_wp2_with fail
        refine (Open_third (k := 2) TW.out DN.out.z).mono ?_
        rintro e w5 ⟨z, rfl, h, f⟩
        have fb := f
        replace C := Lib.hid (C.out.next fb)
        replace Rl := Lib.hid (Rl.out.fr fb)
        replace Rm := Lib.hid (Rm.out.fr fb)
        clear fb
        have TH := Lib.hid h
        clear h f TW
        go_wp2_with fail
        refine (TH.out.flush DN.out.flush).mono ?_
        rintro e w6 ⟨rfl, h1, h2, h3, f⟩
        have fb := f
        replace C := Lib.hid (C.out.next fb)
        replace Rl := Lib.hid (Rl.out.fr fb)
        replace Rm := Lib.hid (Rm.out.fr fb)
        clear fb
        have L1 := Lib.hid h1
        have L2 := Lib.hid h2
        have L3 := Lib.hid h3
        clear h1 h2 h3 f TH
        go_wp2_with fail
        refine (All_any X0 _ p _ _ _ _ L1.out (by have := CL.out; omega)).mono ?_
        rintro e w7 ⟨v, rfl, ho, _, hb⟩
        have fb := Fr.of_below hb C.out.lt
        replace C := Lib.hid (C.out.next fb)
        replace Rl := Lib.hid (Rl.out.fr fb)
        replace Rm := Lib.hid (Rm.out.fr fb)
        clear fb
        replace L1 := Lib.hid (L1.out.step hb)
        replace L2 := Lib.hid (L2.out.step hb)
        replace L3 := Lib.hid (L3.out.step hb)
        obtain ⟨A1, n1, c1, rfl, hn1, _⟩ := ho.sl
        have ROW := Lib.hid (ho.row hn1)
        have NN := Lib.hid hn1
        clear ho hb hn1
        go_wp2_with fail
        refine (same_any A1 Al l l c1 cl n1 nl w7 NN.out Nl.out ROW.out (Rl.out.row C.out.lt) (by have := CL.out; omega) (by have := CL.out; omega)).mono ?_
        rintro e w8 ⟨rfl, hb⟩
        rw [SL.out]
        have fb := Fr.of_below hb C.out.lt
        replace C := Lib.hid (C.out.next fb)
        replace Rl := Lib.hid (Rl.out.fr fb)
        replace Rm := Lib.hid (Rm.out.fr fb)
        clear fb
        replace L1 := Lib.hid (L1.out.step hb)
        replace L2 := Lib.hid (L2.out.step hb)
        replace L3 := Lib.hid (L3.out.step hb)
        clear hb ROW NN
        go_wp2_with fail
        refine (All_any X0 _ p _ _ _ _ L2.out (by have := CM.out; omega)).mono ?_
        rintro e w9 ⟨v, rfl, ho, _, hb⟩
        have fb := Fr.of_below hb C.out.lt
        replace C := Lib.hid (C.out.next fb)
        replace Rl := Lib.hid (Rl.out.fr fb)
        replace Rm := Lib.hid (Rm.out.fr fb)
        clear fb
        replace L1 := Lib.hid (L1.out.step hb)
        replace L2 := Lib.hid (L2.out.step hb)
        replace L3 := Lib.hid (L3.out.step hb)
        obtain ⟨A1, n1, c1, rfl, hn1, _⟩ := ho.sl
        have ROW := Lib.hid (ho.row hn1)
        have NN := Lib.hid hn1
        clear ho hb hn1
        go_wp2_with fail
        refine (same_any A1 Am m m c1 cm n1 nm w9 NN.out Nm.out ROW.out (Rm.out.row C.out.lt) (by have := CM.out; omega) (by have := CM.out; omega)).mono ?_
        rintro e w10 ⟨rfl, hb⟩
        rw [SM.out]
        have fb := Fr.of_below hb C.out.lt
        replace C := Lib.hid (C.out.next fb)
        replace Rl := Lib.hid (Rl.out.fr fb)
        replace Rm := Lib.hid (Rm.out.fr fb)
        clear fb
        replace L1 := Lib.hid (L1.out.step hb)
        replace L2 := Lib.hid (L2.out.step hb)
        replace L3 := Lib.hid (L3.out.step hb)
        clear hb ROW NN
        go_wp2_with fail
        refine (All_any X0 _ p _ _ _ _ L3.out (by have := CM.out; omega)).mono ?_
        rintro e w11 ⟨v, rfl, ho, _, hb⟩
        have fb := Fr.of_below hb C.out.lt
        replace C := Lib.hid (C.out.next fb)
        replace Rl := Lib.hid (Rl.out.fr fb)
        replace Rm := Lib.hid (Rm.out.fr fb)
        clear fb
        replace L1 := Lib.hid (L1.out.step hb)
        replace L2 := Lib.hid (L2.out.step hb)
        replace L3 := Lib.hid (L3.out.step hb)
        obtain ⟨A1, n1, c1, rfl, hn1, _⟩ := ho.sl
        have ROW := Lib.hid (ho.row hn1)
        have NN := Lib.hid hn1
        clear ho hb hn1
        go_wp2_with fail
        refine (same_any A1 Am m m c1 cm n1 nm w11 NN.out Nm.out ROW.out (Rm.out.row C.out.lt) (by have := CM.out; omega) (by have := CM.out; omega)).mono ?_
        rintro e w12 ⟨rfl, hb⟩
        rw [SM.out]
        have fb := Fr.of_below hb C.out.lt
        replace C := Lib.hid (C.out.next fb)
        replace Rl := Lib.hid (Rl.out.fr fb)
        replace Rm := Lib.hid (Rm.out.fr fb)
        clear fb
        replace L1 := Lib.hid (L1.out.step hb)
        replace L2 := Lib.hid (L2.out.step hb)
        replace L3 := Lib.hid (L3.out.step hb)
        clear hb ROW NN
        go_wp2_with fail
        refine (Len_any X0 z p 2 m _ _ L3.out).mono ?_
        rintro e wz ⟨rfl, rfl⟩
        have hzl : ((m.length : Nat) : Int) = (nm : Int) := by rw [Nm.out]
        rw [hzl]
        clear hzl L2 L3
        go_wp2_with fail
        refine (crash_none L1.out).mono ?_
        rintro e w13 ⟨rfl, h, f⟩
        have fb := f
        replace C := Lib.hid (C.out.next fb)
        replace Rl := Lib.hid (Rl.out.fr fb)
        replace Rm := Lib.hid (Rm.out.fr fb)
        clear fb
        replace L1 := Lib.hid h
        clear h f
        go_wp2_with fail
        refine (start_lg L1.out).mono ?_
        rintro e w14 ⟨rfl, h, f⟩
        have fb := f
        replace C := Lib.hid (C.out.next fb)
        replace Rl := Lib.hid (Rl.out.fr fb)
        replace Rm := Lib.hid (Rm.out.fr fb)
        clear fb
        replace L1 := Lib.hid h.drop
        clear h f
        go_wp2_with fail
        refine (Open_ok (f := 0) L1.out DN.out.u).mono ?_
        rintro e w15 ⟨u, rfl, h, f⟩
        have fb := f
        replace C := Lib.hid (C.out.next fb)
        replace Rl := Lib.hid (Rl.out.fr fb)
        replace Rm := Lib.hid (Rm.out.fr fb)
        clear fb
        replace L1 := Lib.hid h
        clear h f
        go_wp2_with fail
        refine (Open_second (g := 2) L1.out DN.out.v).mono ?_
        rintro e w16 ⟨v, rfl, h, f⟩
        have fb := f
        replace C := Lib.hid (C.out.next fb)
        replace Rl := Lib.hid (Rl.out.fr fb)
        replace Rm := Lib.hid (Rm.out.fr fb)
        clear fb
        replace L1 := Lib.hid h.second
        have L2 := Lib.hid h.first
        clear h f DN
        go_wp2_with fail
        refine (All_any X0 _ p _ _ _ _ L1.out (by have := CL.out; omega)).mono ?_
        rintro e w17 ⟨v, rfl, ho, _, hb⟩
        have fb := Fr.of_below hb C.out.lt
        replace C := Lib.hid (C.out.next fb)
        replace Rl := Lib.hid (Rl.out.fr fb)
        replace Rm := Lib.hid (Rm.out.fr fb)
        clear fb
        replace L2 := Lib.hid (L2.out.step hb)
        obtain ⟨A1, n1, c1, rfl, hn1, _⟩ := ho.sl
        have ROW := Lib.hid (ho.row hn1)
        have NN := Lib.hid hn1
        clear ho hb hn1
        go_wp2_with fail
        refine (same_any A1 Al l l c1 cl n1 nl w17 NN.out Nl.out ROW.out (Rl.out.row C.out.lt) (by have := CL.out; omega) (by have := CL.out; omega)).mono ?_
        rintro e w18 ⟨rfl, hb⟩
        rw [SL.out]
        have fb := Fr.of_below hb C.out.lt
        replace C := Lib.hid (C.out.next fb)
        replace Rl := Lib.hid (Rl.out.fr fb)
        replace Rm := Lib.hid (Rm.out.fr fb)
        clear fb
        replace L2 := Lib.hid (L2.out.step hb)
        clear hb ROW NN
        go_wp2_with fail
        refine (All_any X0 _ p _ _ _ _ L2.out (by have := CM.out; omega)).mono ?_
        rintro e w19 ⟨v, rfl, ho, _, hb⟩
        have fb := Fr.of_below hb C.out.lt
        replace C := Lib.hid (C.out.next fb)
        replace Rl := Lib.hid (Rl.out.fr fb)
        replace Rm := Lib.hid (Rm.out.fr fb)
        clear fb
        obtain ⟨A1, n1, c1, rfl, hn1, _⟩ := ho.sl
        have ROW := Lib.hid (ho.row hn1)
        have NN := Lib.hid hn1
        clear ho hb hn1
        go_wp2_with fail
        refine (same_any A1 Am m m c1 cm n1 nm w19 NN.out Nm.out ROW.out (Rm.out.row C.out.lt) (by have := CM.out; omega) (by have := CM.out; omega)).mono ?_
        rintro e w20 ⟨rfl, hb⟩
        rw [SM.out]
        have fb := Fr.of_below hb C.out.lt
        replace C := Lib.hid (C.out.next fb)
        replace Rl := Lib.hid (Rl.out.fr fb)
        replace Rm := Lib.hid (Rm.out.fr fb)
        clear fb
        clear hb ROW NN
        go_wp2
        go_ret
        exact ⟨rfl, C.out.end_ HX0.out⟩
end Wl
end Go.Proofs.Ytihanhdepijijaa
