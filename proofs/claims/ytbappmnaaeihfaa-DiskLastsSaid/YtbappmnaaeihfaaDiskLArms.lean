/-
  Layer 9 (disk): DiskArms.
-/
import Derived.Test.YtbappmnaaeihfaaDiskLTurns
import Derived.Deep.RegionHeld3
namespace Go.Proofs.Ytbappmnaaeihfaa
open Go.RowKit
namespace Dk
attribute [local go_sem] S2.B_size S2.B_list S2.B_app S2.B_take
/-- A list of strings that lies where nothing is to turn. -/
def Ls (X : Nat → Prop) (w : World) (A : Option Addr) (l : List Str) : Prop := l = [] ∨ ∃ ad, A = some ad ∧ X ad.block ∧ ∀ (i : Nat) (h : i < l.length), w.cell? (ad.add i) = some (.string (S2.B l[i]))
theorem Ls.fr {X : Nat → Prop} {w w' : World} {A : Option Addr} {l : List Str} (h : Ls X w A l) (hf : Fr X w w') : Ls X w' A l := by
  rcases h with h | ⟨a, h1, h2, h3⟩
  · exact .inl h
  · exact .inr ⟨a, h1, h2, fun i hi => (hf.cell (p := a.add i) (by rw [S2.add_block]; exact h2)).trans (h3 i hi)⟩
theorem Ls.at_ {X : Nat → Prop} {w : World} {A : Option Addr} {l : List Str} (h : Ls X w A l) {i : Nat} (hi : i < l.length) : ∃ ad, A = some ad ∧ w.cell? (ad.add i) = some (.string (S2.B l[i])) := by
  rcases h with h | ⟨a, h1, h2, h3⟩
  · subst h; cases hi
  · exact ⟨a, h1, h3 i hi⟩
def lens (l : List Str) : Nat := (l.map List.length).sum
theorem lens_snoc (l : List Str) (s : Str) : lens (l ++ [s]) = lens l + s.length := by simp [lens]
theorem lens_le {l : List Str} (h : ∀ s ∈ l, s.length ≤ 281474976710656) : lens l ≤ l.length * 281474976710656 := by
  induction l with
  | nil => simp [lens]
  | cons a l ih =>
    have h1 := ih (fun b hb => h b (List.mem_cons_of_mem _ hb))
    have h2 := h a List.mem_cons_self
    simp only [lens, List.map_cons, List.sum_cons, List.length_cons] at *
    omega
theorem lens_take (l : List Str) (i : Nat) : lens (l.take i) ≤ lens l := by
  have h : lens (l.take i ++ l.drop i) = lens (l.take i) + lens (l.drop i) := by simp only [lens, List.map_append, List.sum_append]
  rw [List.take_append_drop] at h
  omega
/-- Before the planned crash: c calls have been made. -/
structure Run (D : MD) (n k c : Int) (sf rs : Str) : Prop where
  down : D.down = false
  lost : D.lost = 0
  calls : D.calls = n - c
  pos : 1 ≤ D.calls
  keep : D.keep 0 = k
  t0 : D.text 0 = sf ++ rs
  d0 : D.dur 0 = sf.length
/-- After it. -/
structure Over (D : MD) (k : Int) (sf rs : Str) : Prop where
  down : D.down = true
  t0 : D.text 0 = sf ++ rs.take (min k.toNat rs.length)
theorem run_new {n k : Int} (hn : 1 ≤ n) : Run (MD.new.arm n [k]) n k 0 [] [] := by
  unfold MD.arm
  rw [if_pos (by omega)]
  exact ⟨rfl, rfl, by simp, hn, rfl, rfl, rfl⟩
theorem over_crash {D : MD} {k : Int} {sf rs : Str} (hd : D.dur 0 = sf.length) (ht : D.text 0 = sf ++ rs) (hk : D.keep 0 = k) : Over (D.crash D.keep) k sf rs := by
  refine ⟨rfl, ?_⟩
  show (D.text 0).take (D.cutAt D.keep 0) = _
  unfold MD.cutAt
  rw [ht, hd, hk, List.length_append, Nat.add_sub_cancel_left, List.take_append, Nat.add_sub_cancel_left, List.take_of_length_le (by omega)]
theorem chk_up {D : MD} (h : D.down = false) : D.chk1 0 = 0 := by simp [MD.chk1, h, isF]
theorem run_app {D : MD} {n k c : Int} {sf rs s : Str} (h : Run D n k c sf rs) (hl : (sf ++ rs).length + s.length ≤ 16777216) :
    (D.calls = 1 → (D.app 0 s).1 = 8 ∧ Over (D.app 0 s).2 k sf (rs ++ s)) ∧ (D.calls ≠ 1 → (D.app 0 s).1 = 0 ∧ Run (D.app 0 s).2 n k (c + 1) sf (rs ++ s)) := by
  have hE : D.appE 0 s = 0 := by
    unfold MD.appE
    rw [chk_up h.down, if_neg (by decide), if_neg]
    show ¬ (16777216 - ((D.text 0).length : Int) < s.length)
    rw [h.t0]
    omega
  have h1 : D.app1 0 s = D.put 0 s := by unfold MD.app1; rw [if_pos hE]; rfl
  have ht : (D.put 0 s).text 0 = sf ++ (rs ++ s) := by
    show upd D.text 0 (D.text 0 ++ s) 0 = _
    rw [upd_same, h.t0, List.append_assoc]
  constructor
  · intro hc
    have hh : D.hit = true := by simp [MD.hit, h.down, hc]
    have e : D.app 0 s = (8, (D.put 0 s).crash D.keep) := by
      unfold MD.app
      rw [hh, h1]
      unfold MD.tick
      rw [if_neg (show ¬ ((D.put 0 s).down = true ∨ (D.put 0 s).calls = 0) by show ¬ (D.down = true ∨ D.calls = 0); rw [h.down, hc]; decide), if_pos (show (D.put 0 s).calls = 1 from hc)]
      rfl
    rw [e]
    exact ⟨rfl, over_crash (D := D.put 0 s) h.d0 ht h.keep⟩
  · intro hc
    have hh : D.hit = false := by simp [MD.hit, hc]
    have hp := h.pos
    have e : D.app 0 s = (0, { D.put 0 s with calls := D.calls - 1 }) := by
      unfold MD.app
      rw [hh, h1, hE]
      unfold MD.tick
      rw [if_neg (show ¬ ((D.put 0 s).down = true ∨ (D.put 0 s).calls = 0) by show ¬ (D.down = true ∨ D.calls = 0); rw [h.down]; simp; omega), if_neg (show ¬ (D.put 0 s).calls = 1 from hc)]
      rfl
    rw [e]
    have hcl := h.calls
    exact ⟨rfl, h.down, h.lost, by show D.calls - 1 = _; omega, by show 1 ≤ D.calls - 1; omega, h.keep, ht, h.d0⟩
theorem run_flush {D : MD} {n k c : Int} {sf rs : Str} (h : Run D n k c sf rs) :
    (D.calls = 1 → (D.flush 0).1 = 8 ∧ Over (D.flush 0).2 k sf rs) ∧ (D.calls ≠ 1 → (D.flush 0).1 = 0 ∧ Run (D.flush 0).2 n k (c + 1) (sf ++ rs) []) := by
  have hp := h.pos
  constructor
  · intro hc
    have hh : D.hit = true := by simp [MD.hit, h.down, hc]
    have e : D.flush 0 = (8, D.crash D.keep) := by
      unfold MD.flush
      rw [hh]
      unfold MD.tick
      rw [if_neg (show ¬ (D.down = true ∨ D.calls = 0) by rw [h.down, hc]; decide), if_pos hc]
      rfl
    rw [e]
    exact ⟨rfl, over_crash h.d0 h.t0 h.keep⟩
  · intro hc
    have hh : D.hit = false := by simp [MD.hit, hc]
    have et : D.tick = { D with calls := D.calls - 1 } := by
      unfold MD.tick
      rw [if_neg (show ¬ (D.down = true ∨ D.calls = 0) by rw [h.down]; simp; omega), if_neg hc]
    have e : D.flush 0 = (0, { D with calls := D.calls - 1 }.settle 0) := by
      unfold MD.flush
      rw [hh, et]
      show ({ D with calls := D.calls - 1 } : MD).flush1 0 = _
      unfold MD.flush1
      rw [chk_up (D := { D with calls := D.calls - 1 }) h.down, if_neg (by decide), if_neg (show ¬ 0 < D.lost by rw [h.lost]; decide)]
      rfl
    rw [e]
    have hcl := h.calls
    refine ⟨rfl, h.down, h.lost, by show D.calls - 1 = _; omega, by show 1 ≤ D.calls - 1; omega, h.keep, ?_, ?_⟩
    · show D.text 0 = _
      rw [h.t0, List.append_nil]
    · show upd D.dur 0 (D.text 0).length 0 = _
      rw [upd_same, h.t0]
theorem run_read {D : MD} {n k c : Int} {sf rs : Str} (h : Run D n k c sf rs) : D.read 0 = (sf ++ rs, 0) := by
  unfold MD.read
  rw [chk_up h.down, if_neg (by decide)]
  show (D.text 0, (0 : Int)) = _
  rw [h.t0]
theorem over_read {D : MD} {k : Int} {sf rs : Str} (h : Over D k sf rs) : D.start.read 0 = (sf ++ rs.take (min k.toNat rs.length), 0) := by
  show (D.text 0, (0 : Int)) = _
  rw [h.t0]
/-- Arm with a literal of one number. -/
theorem arm_lit (X : Nat → Prop) (p : Nat) (D : MD) (m a : Int) (hm : isI m) (ha : isI a) (w : World) (h : Dk X w p D) :
    Calls Try.prog 18 #[ptr p, .int .i64 m, .slice (some ⟨w.heap.size, 0, none⟩) 1 1] (w.alloc (.cells #[.int .i64 a] 3)) fun e w' => e = .returned (.tuple #[]) ∧ Dk X w' p (D.arm m [a]) ∧ Fr X w w' := by
  have hb1 : Below w.heap.size w (w.alloc (.cells #[Value.int .i64 a] 3)) := (Below.refl _ _).alloc (Nat.le_refl _) _
  have h1 : Dk (fun k => X k ∨ k = w.heap.size) (w.alloc (.cells #[Value.int .i64 a] 3)) p D := h.more hb1 (fun k hk => by
    rcases hk with hk | hk
    · exact .inl hk
    · exact .inr (by simp only [World.size_alloc]; omega))
  refine (Arm_any _ p D m hm [a] (some ⟨w.heap.size, 0, none⟩) 1 1 rfl (fun x hx => ?_) _ (.inr ⟨_, rfl, .inr rfl, fun j u hu => S2.one_cell j u hu⟩) h1).mono ?_
  · simp only [List.mem_cons, List.not_mem_nil, or_false] at hx
    subst hx
    exact ha
  · rintro e w1 ⟨rfl, h2, f2⟩
    exact ⟨rfl, h2.weaken (fun _ hk => .inl hk), (Fr.of_below hb1 h.lt).trans (f2.weaken (fun _ hk => .inl hk))⟩
set_option maxHeartbeats 4000000 in
set_option maxRecDepth 100000 in
theorem arms_walk (l : List Str) (n keep : Int) (A : Option Addr) (m c : Nat) (hm : m = l.length) (hm2 : m ≤ maxLen) (hn : isI n) (hk : isI keep) (W : World) (hl : Ls (fun k => k < W.heap.size) W A l) (hb : ∀ s ∈ l, s.length ≤ 281474976710656) :
    Calls Try.prog 7 #[.slice A m c, .int .i64 n, .int .i64 keep] W fun e w' => e = .returned (.bool true) ∧ Below W.heap.size W w' := by
  unfold maxLen at hm2
  have hmI : (m : Int) ≤ 9223372036854775807 := by omega
  have HM := Lib.hid hm
  have HNI := Lib.hid hn
  have HKI := Lib.hid hk
  have HL0 := Lib.hid hl
  have HB := Lib.hid hb
  unfold isI at hn hk
  clear hm hl hb
  by_cases h50 : m ≤ 50
  · have h50I : (m : Int) ≤ 50 := by omega
    clear hm2 hmI
    go_enter Try.func7, Try.ntmps7
    go_wp2_with fail
    refine (small_any W).mono ?_
    rintro e w1 ⟨rfl, hb1⟩
    have HB1 := Lib.hid hb1
    clear hb1
    go_wp2_with fail
    refine (New_any w1).mono ?_
    rintro e w2 ⟨rfl, h, hb⟩
    obtain ⟨X, hX⟩ : ∃ X, X = fun k => k < W.heap.size := ⟨_, rfl⟩
    have HX := Lib.hid hX
    have hsz := HB1.out.size
    have H := Lib.hid (show Dk X w2 w1.heap.size MD.new from h.weaken (fun k hk => by rw [hX] at hk; omega))
    have FR := Lib.hid (show Fr X W w2 from Fr.of_below (HB1.out.trans (hb.mono hsz)) (fun k hk => by rw [hX] at hk; exact hk))
    clear h hb hX hsz HB1
    generalize w1.heap.size = p at *
    have LS := Lib.hid (show Ls X W A l by rw [HX.out]; exact HL0.out)
    go_wp2
    go_loopw [9, 10] (fun vs vi wr => ∃ i : Nat, vi = .int .i64 (i : Int) ∧ vs = .int .i64 (lens (l.take i) : Nat) ∧ i ≤ m ∧ wr = w2) (fun _ vi _ => m - (intOf vi).toNat)
    case atStart => exact ⟨0, rfl, rfl, by omega, by first | rfl | trivial⟩
    case round =>
      obtain ⟨i, rfl, rfl, him, rfl⟩ := hrel
      have hwl : lens (l.take i) ≤ 50 * 281474976710656 := by
        have h1 := lens_le (l := l.take i) (fun a ha => HB.out a (List.mem_of_mem_take ha))
        have h2 : (l.take i).length ≤ 50 := by rw [List.length_take]; omega
        exact Nat.le_trans h1 (Nat.mul_le_mul_right _ h2)
      by_cases hlt : i < m
      · have hltI : (i : Int) < m := by omega
        have hil : i < l.length := by rw [← HM.out]; exact hlt
        have hws : lens (l.take (i + 1)) = lens (l.take i) + l[i].length := by rw [List.take_succ_eq_append_getElem hil, lens_snoc]
        have hb := HB.out l[i] (List.getElem_mem hil)
        obtain ⟨ad, rfl, hc⟩ := (LS.out.fr FR.out).at_ hil
        obtain ⟨q, hq⟩ : ∃ q, q = lens (l.take i) := ⟨_, rfl⟩
        obtain ⟨ls, hls⟩ : ∃ q, q = l[i].length := ⟨_, rfl⟩
        rw [← hq] at hwl hws ⊢
        rw [← hls] at hws hb
        have hqI : (q : Int) ≤ 50 * 281474976710656 := by omega
        have hsI : (ls : Int) ≤ 281474976710656 := by omega
        have HBS : (S2.B l[i]).size = ls := by rw [S2.B_size, hls]
        have HWS := Lib.hid hws
        generalize S2.B l[i] = bs at *
        clear hwl hws hq hls hb hil hlt
        go_wp2
        go_roundw
        case rel => exact ⟨i + 1, by go_num, by rw [HWS.out]; go_num, by omega, by first | rfl | trivial⟩
        case measure => simp [intOf]; omega
      · have hge : ¬ (i : Int) < m := by omega
        rw [List.take_of_length_le (by rw [← HM.out]; omega)] at hwl ⊢
        by_cases hsum : lens l ≤ 20000
        · have hsumI : (lens l : Int) ≤ 20000 := by omega
          by_cases hn1 : 1 ≤ n
          · by_cases hn2 : n ≤ 100
            · have HSUM := Lib.hid hsum
              clear hwl
              go_wp2_with fail
              refine (arm_lit X p MD.new n keep HNI.out HKI.out _ H.out).mono ?_
              rintro e w3 ⟨rfl, h, f⟩
              replace H := Lib.hid h
              replace FR := Lib.hid (FR.out.trans f)
              clear h f
              go_wp2
              go_loopw [11, 12, 13, 14] (fun va vb vc vi wr => ∃ (i : Nat) (c : Int) (sf rs : Str) (D : MD), vi = .int .i64 (i : Int) ∧ vc = .int .i64 c ∧ va = .string (S2.B sf) ∧ vb = .string (S2.B rs) ∧ i ≤ m ∧ Dk X wr p D ∧ Fr X W wr ∧ sf.length + rs.length ≤ lens (l.take i) ∧ ((0 ≤ c ∧ Run D n keep c sf rs) ∨ (c = n ∧ Over D keep sf rs))) (fun _ _ _ vi _ => m - (intOf vi).toNat)
              case atStart => exact ⟨0, 0, [], [], _, rfl, rfl, rfl, rfl, by omega, H.out, FR.out, by simp, .inl ⟨by omega, run_new hn1⟩⟩
              case round =>
                clear H FR
                obtain ⟨i, c, sf, rs, D, rfl, rfl, rfl, rfl, him2, h, f, hlen, hst⟩ := hrel
                have H := Lib.hid h
                have FR := Lib.hid f
                clear h f
                rcases hst with ⟨hc0, hst⟩ | ⟨rfl, hst⟩
                · have RN := Lib.hid hst
                  clear hst
                  by_cases hlt : i < m
                  · have hltI : (i : Int) < m := by omega
                    have hil : i < l.length := by rw [← HM.out]; exact hlt
                    have hl1 : lens (l.take (i + 1)) = lens (l.take i) + l[i].length := by rw [List.take_succ_eq_append_getElem hil, lens_snoc]
                    have hl2 := lens_take l (i + 1)
                    obtain ⟨ad, rfl, hc⟩ := (LS.out.fr FR.out).at_ hil
                    have hci : ∀ wq, Fr X W wq → wq.cell? (ad.add i) = some (.string (S2.B l[i])) := fun wq hq => by
                      obtain ⟨ad', e, hc'⟩ := (LS.out.fr hq).at_ hil
                      cases e
                      exact hc'
                    have HCI := Lib.hid hci
                    clear hci
                    generalize l[i] = s at *
                    have HL1 := Lib.hid hl1
                    have HLI := Lib.hid hlen
                    have HIM := Lib.hid hlt
                    have hsb : s.length ≤ 20000 := by have := HSUM.out; omega
                    have HSB := Lib.hid hsb
                    have HLB := Lib.hid (show (sf ++ rs).length + s.length ≤ 16777216 by rw [List.length_append]; have := HSUM.out; omega)
                    have hb1 : (sf.length : Int) + ((rs.length : Int) + (s.length : Int)) ≤ 20000 := by have := HSUM.out; omega
                    have HCN := Lib.hid RN.out.calls
                    obtain ⟨c1, hc1'⟩ : ∃ c1, c1 = c + 1 := ⟨_, rfl⟩
                    obtain ⟨c2, hc2'⟩ : ∃ c2, c2 = c1 + 1 := ⟨_, rfl⟩
                    have HC1 := Lib.hid hc1'
                    have HC2 := Lib.hid hc2'
                    have hcr : 0 ≤ c ∧ c ≤ 100 := ⟨hc0, by have := RN.out.pos; have := RN.out.calls; omega⟩
                    have hcr0 := hcr.1
                    have hcr1 := hcr.2
                    have hc1a : 0 ≤ c1 := by omega
                    have hc1b : c1 ≤ 101 := by omega
                    have hiI : (i : Int) ≤ 50 := by omega
                    clear hl1 hl2 hlen hil hlt hsb hc1' hc2' hcr hc0
                    by_cases hcall : D.calls = 1
                    · have HCA := Lib.hid hcall
                      rw [hcall] at HCN
                      clear hcall
                      by_cases ho : i % 2 = 1
                      · have HODD := Lib.hid ho
                        clear ho
                        have hodd : (i : Int) % 2 = 1 := by have := HODD.out; omega
                        have hc1 : (c1 == n) = true := by have := HC1.out; have := HCN.out; rw [beq_iff_eq]; omega
                        have hc2 : ¬ c1 < n := by have := HC1.out; have := HCN.out; omega
                        go_wp2_with fail
                        refine (down_any X p D _ H.out).mono ?_
                        rintro e wd1 ⟨rfl, hq⟩
                        obtain rfl := hq
                        rw [RN.out.down]
                        go_wp2_with fail
                        rw [← HC1.out]
                        refine (Append_any X p D 0 s (by have := HSB.out; omega) _ H.out).mono ?_
                        rintro e w3 ⟨rfl, h, f⟩
                        obtain ⟨e1, st⟩ := (run_app RN.out HLB.out).1 HCA.out
                        obtain ⟨D1, hD⟩ : ∃ D', D' = (D.app 0 s).2 := ⟨_, rfl⟩
                        rw [e1]
                        rw [← hD] at h st
                        replace H := Lib.hid h
                        replace FR := Lib.hid (FR.out.trans f)
                        have ST := Lib.hid st
                        clear h f st hD e1 RN
                        have hc3 := HCI.out _ FR.out
                        go_wp2_with fail
                        refine (down_any X p D1 _ H.out).mono ?_
                        rintro e wd2 ⟨rfl, hq⟩
                        obtain rfl := hq
                        rw [ST.out.down]
                        go_wp2
                        go_roundw
                        case rel => exact ⟨i + 1, c1, sf, rs ++ s, D1, by go_num, rfl, rfl, rfl, by have := HIM.out; omega, H.out, FR.out, by rw [HL1.out]; have := HLI.out; simp only [List.length_append]; omega, .inr ⟨by have := HC1.out; have := HCN.out; omega, ST.out⟩⟩
                        case measure => simp [intOf]; have := HIM.out; omega
                      · have HODD := Lib.hid ho
                        clear ho
                        have hodd : (i : Int) % 2 = 0 := by have := HODD.out; omega
                        have hc1 : (c1 == n) = true := by have := HC1.out; have := HCN.out; rw [beq_iff_eq]; omega
                        have hc2 : ¬ c1 < n := by have := HC1.out; have := HCN.out; omega
                        go_wp2_with fail
                        refine (down_any X p D _ H.out).mono ?_
                        rintro e wd1 ⟨rfl, hq⟩
                        obtain rfl := hq
                        rw [RN.out.down]
                        go_wp2_with fail
                        rw [← HC1.out]
                        refine (Append_any X p D 0 s (by have := HSB.out; omega) _ H.out).mono ?_
                        rintro e w3 ⟨rfl, h, f⟩
                        obtain ⟨e1, st⟩ := (run_app RN.out HLB.out).1 HCA.out
                        obtain ⟨D1, hD⟩ : ∃ D', D' = (D.app 0 s).2 := ⟨_, rfl⟩
                        rw [e1]
                        rw [← hD] at h st
                        replace H := Lib.hid h
                        replace FR := Lib.hid (FR.out.trans f)
                        have ST := Lib.hid st
                        clear h f st hD e1 RN
                        have hc3 := HCI.out _ FR.out
                        go_wp2
                        go_roundw
                        case rel => exact ⟨i + 1, c1, sf, rs ++ s, D1, by go_num, rfl, rfl, rfl, by have := HIM.out; omega, H.out, FR.out, by rw [HL1.out]; have := HLI.out; simp only [List.length_append]; omega, .inr ⟨by have := HC1.out; have := HCN.out; omega, ST.out⟩⟩
                        case measure => simp [intOf]; have := HIM.out; omega
                    · have HCA := Lib.hid hcall
                      have hgt : 1 < D.calls := by have := RN.out.pos; omega
                      have hgt2 : c + 1 < n := by have := RN.out.calls; omega
                      clear HCN
                      have HCN := Lib.hid hgt2
                      clear hgt hgt2 hcall
                      by_cases ho : i % 2 = 1
                      · have HODD := Lib.hid ho
                        clear ho
                        have hodd : (i : Int) % 2 = 1 := by have := HODD.out; omega
                        have hc1 : (c1 == n) = false := by have := HC1.out; have := HCN.out; rw [beq_eq_false_iff_ne]; omega
                        have hc2 : c1 < n := by have := HC1.out; have := HCN.out; omega
                        go_wp2_with fail
                        refine (down_any X p D _ H.out).mono ?_
                        rintro e wd1 ⟨rfl, hq⟩
                        obtain rfl := hq
                        rw [RN.out.down]
                        go_wp2_with fail
                        rw [← HC1.out]
                        refine (Append_any X p D 0 s (by have := HSB.out; omega) _ H.out).mono ?_
                        rintro e w3 ⟨rfl, h, f⟩
                        obtain ⟨e1, st⟩ := (run_app RN.out HLB.out).2 HCA.out
                        obtain ⟨D1, hD⟩ : ∃ D', D' = (D.app 0 s).2 := ⟨_, rfl⟩
                        rw [e1]
                        rw [← hD] at h st
                        replace H := Lib.hid h
                        replace FR := Lib.hid (FR.out.trans f)
                        have ST := Lib.hid st
                        clear h f st hD e1 RN
                        have hc3 := HCI.out _ FR.out
                        go_wp2_with fail
                        refine (down_any X p D1 _ H.out).mono ?_
                        rintro e wd2 ⟨rfl, hq⟩
                        obtain rfl := hq
                        rw [ST.out.down]
                        have hcc := ST.out.calls
                        have hcp := ST.out.pos
                        by_cases hone : D1.calls = 1
                        · have HCB := Lib.hid hone
                          have hc3 : (c2 == n) = true := by have := HC1.out; have := HC2.out; rw [beq_iff_eq]; omega
                          have hc4 : ¬ c2 < n := by have := HC1.out; have := HC2.out; omega
                          clear hone hcc hcp
                          go_wp2_with fail
                          rw [← HC2.out]
                          refine (Flush_any X p D1 0 _ H.out).mono ?_
                          rintro e w5 ⟨rfl, h, f⟩
                          obtain ⟨e1, st⟩ := (run_flush ST.out).1 HCB.out
                          obtain ⟨D2, hD⟩ : ∃ D', D' = (D1.flush 0).2 := ⟨_, rfl⟩
                          rw [e1]
                          rw [← hD] at h st
                          replace H := Lib.hid h
                          replace FR := Lib.hid (FR.out.trans f)
                          have ST2 := Lib.hid st
                          clear h f st hD e1 ST
                          go_wp2
                          go_roundw
                          case rel => exact ⟨i + 1, c2, sf, rs ++ s, D2, by go_num, rfl, rfl, rfl, by have := HIM.out; omega, H.out, FR.out, by rw [HL1.out]; have := HLI.out; simp only [List.length_append]; omega, .inr ⟨by rw [beq_iff_eq] at hc3; exact hc3, ST2.out⟩⟩
                          case measure => simp [intOf]; have := HIM.out; omega
                        · have HCB := Lib.hid hone
                          have hc3 : (c2 == n) = false := by have := HC1.out; have := HC2.out; rw [beq_eq_false_iff_ne]; omega
                          have hc4 : c2 < n := by have := HC1.out; have := HC2.out; omega
                          clear hone hcc hcp
                          go_wp2_with fail
                          rw [← HC2.out]
                          refine (Flush_any X p D1 0 _ H.out).mono ?_
                          rintro e w5 ⟨rfl, h, f⟩
                          obtain ⟨e1, st⟩ := (run_flush ST.out).2 HCB.out
                          obtain ⟨D2, hD⟩ : ∃ D', D' = (D1.flush 0).2 := ⟨_, rfl⟩
                          rw [e1]
                          rw [← hD] at h st
                          replace H := Lib.hid h
                          replace FR := Lib.hid (FR.out.trans f)
                          have ST2 := Lib.hid st
                          clear h f st hD e1 ST
                          go_wp2
                          go_roundw
                          case rel => exact ⟨i + 1, c2, sf ++ (rs ++ s), [], D2, by go_num, rfl, rfl, rfl, by have := HIM.out; omega, H.out, FR.out, by rw [HL1.out]; have := HLI.out; simp only [List.length_append, List.length_nil]; omega, .inl ⟨by have := HC2.out; omega, by rw [HC2.out, HC1.out]; exact ST2.out⟩⟩
                          case measure => simp [intOf]; have := HIM.out; omega
                      · have HODD := Lib.hid ho
                        clear ho
                        have hodd : (i : Int) % 2 = 0 := by have := HODD.out; omega
                        have hc1 : (c1 == n) = false := by have := HC1.out; have := HCN.out; rw [beq_eq_false_iff_ne]; omega
                        have hc2 : c1 < n := by have := HC1.out; have := HCN.out; omega
                        go_wp2_with fail
                        refine (down_any X p D _ H.out).mono ?_
                        rintro e wd1 ⟨rfl, hq⟩
                        obtain rfl := hq
                        rw [RN.out.down]
                        go_wp2_with fail
                        rw [← HC1.out]
                        refine (Append_any X p D 0 s (by have := HSB.out; omega) _ H.out).mono ?_
                        rintro e w3 ⟨rfl, h, f⟩
                        obtain ⟨e1, st⟩ := (run_app RN.out HLB.out).2 HCA.out
                        obtain ⟨D1, hD⟩ : ∃ D', D' = (D.app 0 s).2 := ⟨_, rfl⟩
                        rw [e1]
                        rw [← hD] at h st
                        replace H := Lib.hid h
                        replace FR := Lib.hid (FR.out.trans f)
                        have ST := Lib.hid st
                        clear h f st hD e1 RN
                        have hc3 := HCI.out _ FR.out
                        go_wp2
                        go_roundw
                        case rel => exact ⟨i + 1, c1, sf, rs ++ s, D1, by go_num, rfl, rfl, rfl, by have := HIM.out; omega, H.out, FR.out, by rw [HL1.out]; have := HLI.out; simp only [List.length_append]; omega, .inl ⟨by omega, by rw [HC1.out]; exact ST.out⟩⟩
                        case measure => simp [intOf]; have := HIM.out; omega
                  · have hge : ¬ (i : Int) < m := by omega
                    have hcl : c < n := by have := RN.out.calls; have := RN.out.pos; omega
                    have hb1 : (sf.length : Int) + (rs.length : Int) ≤ 20000 := by have := HSUM.out; have := lens_take l i; omega
                    go_wp2_with fail
                    refine (down_any X p D _ H.out).mono ?_
                    rintro e wd1 ⟨rfl, hq⟩
                    obtain rfl := hq
                    rw [RN.out.down]
                    go_wp2_with fail
                    refine (Read_any X p D 0 _ H.out).mono ?_
                    rintro e w3 ⟨rfl, h, f⟩
                    replace H := Lib.hid h
                    replace FR := Lib.hid (FR.out.trans f)
                    clear h f
                    rw [run_read RN.out]
                    go_wp2
                    go_ret
                    exact ⟨rfl, FR.out.below (fun k hk => by rw [HX.out]; exact hk)⟩
                · have OV := Lib.hid hst
                  clear hst
                  by_cases hlt : i < m
                  · have hltI : (i : Int) < m := by omega
                    go_wp2_with fail
                    refine (down_any X p D _ H.out).mono ?_
                    rintro e wd1 ⟨rfl, hq⟩
                    obtain rfl := hq
                    rw [OV.out.down]
                    go_wp2_with fail
                    refine (down_any X p D _ H.out).mono ?_
                    rintro e wd2 ⟨rfl, hq⟩
                    obtain rfl := hq
                    rw [OV.out.down]
                    have hb1 : (sf.length : Int) + (rs.length : Int) ≤ 20000 := by have := HSUM.out; have := lens_take l i; omega
                    rcases Int.lt_or_le keep 0 with hk | hk
                    · have hz : (0 : Int) ≤ (rs.length : Int) := by omega
                      have e3 : rs.take (min keep.toNat rs.length) = rs.take 0 := by congr 1; omega
                      go_wp2_with fail
                      refine (start_any X p D _ H.out).mono ?_
                      rintro e w3 ⟨rfl, h, f⟩
                      replace H := Lib.hid h
                      replace FR := Lib.hid (FR.out.trans f)
                      clear h f
                      go_wp2_with fail
                      refine (Read_any X p D.start 0 _ H.out).mono ?_
                      rintro e w4 ⟨rfl, h, f⟩
                      replace H := Lib.hid h
                      replace FR := Lib.hid (FR.out.trans f)
                      clear h f
                      rw [over_read OV.out, e3]
                      clear e3
                      go_wp2
                      go_ret
                      exact ⟨rfl, FR.out.below (fun k hk => by rw [HX.out]; exact hk)⟩
                    · obtain ⟨kk, rfl⟩ : ∃ kk : Nat, keep = (kk : Int) := ⟨keep.toNat, by omega⟩
                      rcases Nat.le_total kk rs.length with hk2 | hk2
                      · have hk3 : (kk : Int) ≤ (rs.length : Int) := by omega
                        have e3 : rs.take (min (kk : Int).toNat rs.length) = rs.take kk := by congr 1; omega
                        go_wp2_with fail
                        refine (start_any X p D _ H.out).mono ?_
                        rintro e w3 ⟨rfl, h, f⟩
                        replace H := Lib.hid h
                        replace FR := Lib.hid (FR.out.trans f)
                        clear h f
                        go_wp2_with fail
                        refine (Read_any X p D.start 0 _ H.out).mono ?_
                        rintro e w4 ⟨rfl, h, f⟩
                        replace H := Lib.hid h
                        replace FR := Lib.hid (FR.out.trans f)
                        clear h f
                        rw [over_read OV.out, e3]
                        clear e3
                        go_wp2
                        go_ret
                        exact ⟨rfl, FR.out.below (fun k hk => by rw [HX.out]; exact hk)⟩
                      · rcases Nat.eq_or_lt_of_le hk2 with hk4 | hk4
                        · have hk3 : (kk : Int) ≤ (rs.length : Int) := by omega
                          have e3 : rs.take (min (kk : Int).toNat rs.length) = rs.take kk := by congr 1; omega
                          go_wp2_with fail
                          refine (start_any X p D _ H.out).mono ?_
                          rintro e w3 ⟨rfl, h, f⟩
                          replace H := Lib.hid h
                          replace FR := Lib.hid (FR.out.trans f)
                          clear h f
                          go_wp2_with fail
                          refine (Read_any X p D.start 0 _ H.out).mono ?_
                          rintro e w4 ⟨rfl, h, f⟩
                          replace H := Lib.hid h
                          replace FR := Lib.hid (FR.out.trans f)
                          clear h f
                          rw [over_read OV.out, e3]
                          clear e3
                          go_wp2
                          go_ret
                          exact ⟨rfl, FR.out.below (fun k hk => by rw [HX.out]; exact hk)⟩
                        · have hk3 : (rs.length : Int) < (kk : Int) := by omega
                          have e3 : rs.take (min (kk : Int).toNat rs.length) = rs.take rs.length := by rw [Nat.min_eq_right (by omega)]
                          go_wp2_with fail
                          refine (start_any X p D _ H.out).mono ?_
                          rintro e w3 ⟨rfl, h, f⟩
                          replace H := Lib.hid h
                          replace FR := Lib.hid (FR.out.trans f)
                          clear h f
                          go_wp2_with fail
                          refine (Read_any X p D.start 0 _ H.out).mono ?_
                          rintro e w4 ⟨rfl, h, f⟩
                          replace H := Lib.hid h
                          replace FR := Lib.hid (FR.out.trans f)
                          clear h f
                          rw [over_read OV.out, e3]
                          clear e3
                          go_wp2
                          go_ret
                          exact ⟨rfl, FR.out.below (fun k hk => by rw [HX.out]; exact hk)⟩
                  · have hge : ¬ (i : Int) < m := by omega
                    go_wp2_with fail
                    refine (down_any X p D _ H.out).mono ?_
                    rintro e wd2 ⟨rfl, hq⟩
                    obtain rfl := hq
                    rw [OV.out.down]
                    have hb1 : (sf.length : Int) + (rs.length : Int) ≤ 20000 := by have := HSUM.out; have := lens_take l i; omega
                    rcases Int.lt_or_le keep 0 with hk | hk
                    · have hz : (0 : Int) ≤ (rs.length : Int) := by omega
                      have e3 : rs.take (min keep.toNat rs.length) = rs.take 0 := by congr 1; omega
                      go_wp2_with fail
                      refine (start_any X p D _ H.out).mono ?_
                      rintro e w3 ⟨rfl, h, f⟩
                      replace H := Lib.hid h
                      replace FR := Lib.hid (FR.out.trans f)
                      clear h f
                      go_wp2_with fail
                      refine (Read_any X p D.start 0 _ H.out).mono ?_
                      rintro e w4 ⟨rfl, h, f⟩
                      replace H := Lib.hid h
                      replace FR := Lib.hid (FR.out.trans f)
                      clear h f
                      rw [over_read OV.out, e3]
                      clear e3
                      go_wp2
                      go_ret
                      exact ⟨rfl, FR.out.below (fun k hk => by rw [HX.out]; exact hk)⟩
                    · obtain ⟨kk, rfl⟩ : ∃ kk : Nat, keep = (kk : Int) := ⟨keep.toNat, by omega⟩
                      rcases Nat.le_total kk rs.length with hk2 | hk2
                      · have hk3 : (kk : Int) ≤ (rs.length : Int) := by omega
                        have e3 : rs.take (min (kk : Int).toNat rs.length) = rs.take kk := by congr 1; omega
                        go_wp2_with fail
                        refine (start_any X p D _ H.out).mono ?_
                        rintro e w3 ⟨rfl, h, f⟩
                        replace H := Lib.hid h
                        replace FR := Lib.hid (FR.out.trans f)
                        clear h f
                        go_wp2_with fail
                        refine (Read_any X p D.start 0 _ H.out).mono ?_
                        rintro e w4 ⟨rfl, h, f⟩
                        replace H := Lib.hid h
                        replace FR := Lib.hid (FR.out.trans f)
                        clear h f
                        rw [over_read OV.out, e3]
                        clear e3
                        go_wp2
                        go_ret
                        exact ⟨rfl, FR.out.below (fun k hk => by rw [HX.out]; exact hk)⟩
                      · rcases Nat.eq_or_lt_of_le hk2 with hk4 | hk4
                        · have hk3 : (kk : Int) ≤ (rs.length : Int) := by omega
                          have e3 : rs.take (min (kk : Int).toNat rs.length) = rs.take kk := by congr 1; omega
                          go_wp2_with fail
                          refine (start_any X p D _ H.out).mono ?_
                          rintro e w3 ⟨rfl, h, f⟩
                          replace H := Lib.hid h
                          replace FR := Lib.hid (FR.out.trans f)
                          clear h f
                          go_wp2_with fail
                          refine (Read_any X p D.start 0 _ H.out).mono ?_
                          rintro e w4 ⟨rfl, h, f⟩
                          replace H := Lib.hid h
                          replace FR := Lib.hid (FR.out.trans f)
                          clear h f
                          rw [over_read OV.out, e3]
                          clear e3
                          go_wp2
                          go_ret
                          exact ⟨rfl, FR.out.below (fun k hk => by rw [HX.out]; exact hk)⟩
                        · have hk3 : (rs.length : Int) < (kk : Int) := by omega
                          have e3 : rs.take (min (kk : Int).toNat rs.length) = rs.take rs.length := by rw [Nat.min_eq_right (by omega)]
                          go_wp2_with fail
                          refine (start_any X p D _ H.out).mono ?_
                          rintro e w3 ⟨rfl, h, f⟩
                          replace H := Lib.hid h
                          replace FR := Lib.hid (FR.out.trans f)
                          clear h f
                          go_wp2_with fail
                          refine (Read_any X p D.start 0 _ H.out).mono ?_
                          rintro e w4 ⟨rfl, h, f⟩
                          replace H := Lib.hid h
                          replace FR := Lib.hid (FR.out.trans f)
                          clear h f
                          rw [over_read OV.out, e3]
                          clear e3
                          go_wp2
                          go_ret
                          exact ⟨rfl, FR.out.below (fun k hk => by rw [HX.out]; exact hk)⟩
            · have hn2' : 100 < n := by omega
              go_wp2
              go_ret
              exact ⟨rfl, FR.out.below (fun k hk => by rw [HX.out]; exact hk)⟩
          · have hn1' : n < 1 := by omega
            go_wp2
            go_ret
            exact ⟨rfl, FR.out.below (fun k hk => by rw [HX.out]; exact hk)⟩
        · have hsumI : (20000 : Int) < (lens l : Int) := by omega
          generalize lens l = q at *
          go_wp2
          go_ret
          exact ⟨rfl, FR.out.below (fun k hk => by rw [HX.out]; exact hk)⟩
  · have h50I : (50 : Int) < (m : Int) := by omega
    go_enter Try.func7, Try.ntmps7
    go_wp2_with fail
    refine (small_any W).mono ?_
    rintro e w1 ⟨rfl, hb1⟩
    have HB1 := Lib.hid hb1
    clear hb1
    go_wp2_with fail
    refine (New_any w1).mono ?_
    rintro e w2 ⟨rfl, h, hb⟩
    obtain ⟨X, hX⟩ : ∃ X, X = fun k => k < W.heap.size := ⟨_, rfl⟩
    have HX := Lib.hid hX
    have hsz := HB1.out.size
    have H := Lib.hid (show Dk X w2 w1.heap.size MD.new from h.weaken (fun k hk => by rw [hX] at hk; omega))
    have FR := Lib.hid (show Fr X W w2 from Fr.of_below (HB1.out.trans (hb.mono hsz)) (fun k hk => by rw [hX] at hk; exact hk))
    clear h hb hX hsz HB1
    generalize w1.heap.size = p at *
    have LS := Lib.hid (show Ls X W A l by rw [HX.out]; exact HL0.out)
    go_wp2
    go_loopw [9, 10] (fun vs vi wr => ∃ (i : Nat) (z : Int), vi = .int .i64 (i : Int) ∧ vs = .int .i64 z ∧ i ≤ m ∧ wr = w2) (fun _ vi _ => m - (intOf vi).toNat)
    case atStart => exact ⟨0, 0, rfl, rfl, by omega, by first | rfl | trivial⟩
    case round =>
      obtain ⟨i, z, rfl, rfl, him, rfl⟩ := hrel
      by_cases hlt : i < m
      · have hltI : (i : Int) < m := by omega
        have hil : i < l.length := by rw [← HM.out]; exact hlt
        obtain ⟨ad, rfl, hc⟩ := (LS.out.fr FR.out).at_ hil
        generalize S2.B l[i] = bs at *
        clear hil hlt
        go_wp2
        go_roundw
        case rel => exact ⟨i + 1, _, by go_num, rfl, by omega, by first | rfl | trivial⟩
        case measure => simp [intOf]; omega
      · have hge : ¬ (i : Int) < m := by omega
        go_wp2
        go_ret
        exact ⟨rfl, FR.out.below (fun k hk => by rw [HX.out]; exact hk)⟩
end Dk
end Go.Proofs.Ytbappmnaaeihfaa
