/-
  Layer 10 (wal): take: the record at which a reader stands.
-/
import Derived.Test.YtihanhdepijijaaWalSum
namespace Go.Proofs.Ytihanhdepijijaa
open Go.RowKit
namespace Wl
open S9.Dk (Dk Fr MD By)
open S2 (Rd lft takeI)
open S2.Cd (val rest decN St takeN)
attribute [local go_sem] S2.B_size S2.B_drop' S2.B_take S2.B_list S2.B_app

/-- What take makes of a reader's state: the number, the checksum, the row, and the state behind. -/
def tkN (s : St) : Nat := val 0 (s.bind decN)
def tk1 (s : St) : St := rest (s.bind decN)
def tkC (s : St) : Str := val [] ((tk1 s).bind (takeI 4))
def tk2 (s : St) : St := rest ((tk1 s).bind (takeI 4))
def tkR (s : St) : Str := val [] ((tk2 s).bind (takeI (tkN s)))
def tk3 (s : St) : St := rest ((tk2 s).bind (takeI (tkN s)))
def tkBad (s : St) : Bool := decide (1048576 < (tkR s).length) || (decide ((tkR s).length ≠ tkN s) || decide (tkC s ≠ c4 (tkR s)))
theorem takeI_len {n : Int} {l a r : Str} (h : takeI n l = some (a, r)) : a.length ≤ l.length ∧ r.length ≤ l.length := by
  unfold takeI at h
  split at h
  · unfold takeN at h
    split at h
    · simp only [Option.some.injEq, Prod.mk.injEq] at h
      obtain ⟨rfl, rfl⟩ := h
      simp only [List.length_take, List.length_drop]
      omega
    · cases h
  · cases h
theorem takeI_lens (n : Int) (s : St) : (val [] (s.bind (takeI n))).length ≤ (lft s).length ∧ (lft (rest (s.bind (takeI n)))).length ≤ (lft s).length := by
  cases s with
  | none => simp [val, rest, lft]
  | some l =>
    cases h : takeI n l with
    | none => simp [val, rest, lft, h]
    | some p =>
      obtain ⟨a, r⟩ := p
      have := takeI_len h
      simp [val, rest, lft, h]
      exact this
theorem tk1_len (s : St) : (lft (tk1 s)).length ≤ (lft s).length := by
  unfold tk1
  cases s with
  | none => simp [rest, lft]
  | some l =>
    cases h : decN l with
    | none => simp [rest, lft, h]
    | some p =>
      obtain ⟨n, r⟩ := p
      obtain ⟨e, _⟩ := S2.Cd.codecN.again l n r h
      have e2 := congrArg List.length e
      rw [List.length_append] at e2
      simp only [rest, lft, h, Option.bind_some, Option.map_some, Option.getD_some]
      omega
theorem tk2_len (s : St) : (lft (tk2 s)).length ≤ (lft s).length := Nat.le_trans (takeI_lens 4 (tk1 s)).2 (tk1_len s)
theorem tkR_len (s : St) : (tkR s).length ≤ (lft s).length := Nat.le_trans (takeI_lens _ (tk2 s)).1 (tk2_len s)
theorem tkN_lt (s : St) : tkN s < 9223372036854775808 := by
  unfold tkN
  cases s with
  | none => simp [val]
  | some l =>
    cases h : decN l with
    | none => simp [val, h]
    | some p =>
      obtain ⟨n, r⟩ := p
      obtain ⟨_, ho⟩ := S2.Cd.codecN.again l n r h
      show ((Option.map _ (decN l)).getD 0) < _
      rw [h]
      exact ho
/-- The record at the head, or none. -/
theorem tk_first (l : Str) : (tkBad (some l) = true ∧ first c4 l = none) ∨ (tkBad (some l) = false ∧ first c4 l = some (tkR (some l), lft (tk3 (some l))) ∧ tk3 (some l) = some (lft (tk3 (some l)))) := by
  unfold first
  cases hd : decN l with
  | none =>
    left
    have e1 : tk1 (some l) = none := by simp [tk1, rest, hd]
    have e2 : tk2 (some l) = none := by simp [tk2, rest, e1]
    have eR : tkR (some l) = [] := by simp [tkR, val, e2]
    have eC : tkC (some l) = [] := by simp [tkC, val, e1]
    refine ⟨?_, rfl⟩
    unfold tkBad
    rw [eR, eC, decide_eq_true (p := ([] : Str) ≠ c4 []) (by decide +kernel)]
    simp
  | some p =>
    obtain ⟨n, r⟩ := p
    have eN : tkN (some l) = n := by simp [tkN, val, hd]
    have e1 : tk1 (some l) = some r := by simp [tk1, rest, hd]
    simp only
    by_cases h4 : 4 ≤ r.length
    · have t4 : takeI 4 r = some (r.take 4, r.drop 4) := by
        unfold takeI takeN
        rw [if_pos (by omega), if_pos (by simpa using h4)]
        rfl
      have eC : tkC (some l) = r.take 4 := by simp [tkC, val, e1, t4]
      have e2 : tk2 (some l) = some (r.drop 4) := by simp [tk2, rest, e1, t4]
      by_cases hn : n ≤ (r.drop 4).length
      · have tn : takeI (n : Int) (r.drop 4) = some ((r.drop 4).take n, (r.drop 4).drop n) := by
          unfold takeI takeN
          rw [if_pos (by omega), Int.toNat_natCast, if_pos hn]
        have eR : tkR (some l) = (r.drop 4).take n := by simp [tkR, val, eN, e2, tn]
        have e3 : tk3 (some l) = some ((r.drop 4).drop n) := by simp [tk3, rest, eN, e2, tn]
        have hl : ((r.drop 4).take n).length = n := by rw [List.length_take]; omega
        rw [List.length_drop] at hn
        unfold tkBad
        rw [eR, eC, e3, hl, eN]
        by_cases hc : n ≤ 1048576 ∧ r.take 4 = c4 ((r.drop 4).take n)
        · right
          refine ⟨?_, ?_, rfl⟩
          · rw [decide_eq_false (by omega), decide_eq_false (by simp), decide_eq_false (by simp [hc.2])]; rfl
          · rw [if_pos ⟨hc.1, by omega, hc.2⟩, List.drop_drop]
            rfl
        · left
          refine ⟨?_, if_neg fun h => hc ⟨h.1, h.2.2⟩⟩
          by_cases h1 : n ≤ 1048576
          · rw [decide_eq_true (p := r.take 4 ≠ _) (fun e => hc ⟨h1, e⟩)]; simp
          · rw [decide_eq_true (p := 1048576 < n) (by omega)]; rfl
      · left
        have tn : takeI (n : Int) (r.drop 4) = none := by
          unfold takeI takeN
          rw [if_pos (by omega), Int.toNat_natCast, if_neg hn]
        have eR : tkR (some l) = [] := by simp [tkR, val, eN, e2, tn]
        rw [List.length_drop] at hn
        refine ⟨?_, if_neg fun h => by omega⟩
        unfold tkBad
        rw [eR, eN, decide_eq_true (p := ([] : Str).length ≠ n) (by simp; omega)]
        simp
    · left
      have t4 : takeI 4 r = none := by
        unfold takeI takeN
        rw [if_pos (by omega), if_neg (by simpa using h4)]
      have eC : tkC (some l) = [] := by simp [tkC, val, e1, t4]
      have e2 : tk2 (some l) = none := by simp [tk2, rest, e1, t4]
      have eR : tkR (some l) = [] := by simp [tkR, val, e2]
      refine ⟨?_, if_neg fun h => by omega⟩
      unfold tkBad
      rw [eR, eC, decide_eq_true (p := ([] : Str) ≠ c4 []) (by decide +kernel)]
      simp

theorem grown_below {a b c : World} {g : Nat} (h : a.grownBy b (some g)) (k : Below b.heap.size b c) : a.grownBy c (some g) :=
  ⟨k.os.trans h.os, k.tape.trans h.tape, k.output.trans h.output, Nat.le_trans h.size k.size, fun i hi hne => (k.block i (Nat.lt_of_lt_of_le hi h.size)).trans (h.block i hi hne)⟩
theorem rd_below {T : TypeId} {b c : World} {g : Nat} {s : St} (h : Rd T b g s) (k : Below b.heap.size b c) : Rd T c g s := (k.block g (S2.blk_lt h)).trans h

set_option maxHeartbeats 4000000 in
set_option maxRecDepth 100000 in
theorem take_gen (g : Nat) (s : St) (w : World) (h : Rd 103 w g s) (hl : (lft s).length ≤ 1099511627776) :
    Calls Try.prog 47 #[ptr g] w fun e w' => e = .returned (.tuple #[.string (S2.B (if tkBad s then [] else tkR s)), .bool (!tkBad s)]) ∧ Rd 103 w' g (tk3 s) ∧ w.grownBy w' (some g) := by
  have K1 := S2.num_any g s w h hl
  have K2 := fun w (h : Rd 103 w g (tk1 s)) => S2.take_any g (tk1 s) 4 w h (Nat.le_trans (tk1_len s) hl)
  have K3 := fun w (h : Rd 103 w g (tk2 s)) => S2.take_any g (tk2 s) (tkN s) w h (Nat.le_trans (tk2_len s) hl)
  have K4 := fun w => tooLong_any (tkR s) w (Nat.le_trans (tkR_len s) (by omega))
  have K5 := fun w => checksum_any (tkR s) w (Nat.le_trans (tkR_len s) (by omega))
  have hB : tkBad s = (decide (1048576 < (tkR s).length) || (decide ((tkR s).length ≠ tkN s) || decide (tkC s ≠ c4 (tkR s)))) := rfl
  have hn := tkN_lt s
  have hq : (tkR s).length ≤ 1099511627776 := Nat.le_trans (tkR_len s) hl
  change Calls _ _ _ _ (S2.RRes _ _ _ (.int .i64 (tkN s : Nat)) (tk1 s)) at K1
  change ∀ w, _ → Calls _ _ _ _ (S2.RRes _ _ _ (.string (S2.B (tkC s))) (tk2 s)) at K2
  change ∀ w, _ → Calls _ _ _ _ (S2.RRes _ _ _ (.string (S2.B (tkR s))) (tk3 s)) at K3
  generalize tkN s = n at *
  generalize tkC s = c at *
  generalize tkR s = q at *
  generalize tk1 s = s1 at *
  generalize tk2 s = s2 at *
  generalize tk3 s = s3 at *
  generalize tkBad s = bad at *
  obtain ⟨d, hd⟩ : ∃ d, d = c4 q := ⟨_, rfl⟩
  rw [← hd] at K5 hB
  have N : (q.length : Int) ≤ 1099511627776 := by omega
  have HK1 := Lib.hid K1
  have HK2 := Lib.hid K2
  have HK3 := Lib.hid K3
  have HK4 := Lib.hid K4
  have HK5 := Lib.hid K5
  have HB := Lib.hid hB
  clear K1 K2 K3 K4 K5 hB hl h hd hn hq
  by_cases h1 : 1048576 < q.length
  · have hb : bad = true := by rw [HB.out, decide_eq_true h1]; rfl
    have hf : decide (1048576 < q.length) = true := decide_eq_true h1
    rw [hf] at HK4
    subst hb
    clear HB hf h1 HK5
    go_enter Try.func47, Try.ntmps47
    go_wp2_with fail
    refine HK1.out.mono ?_
    rintro e w1 ⟨rfl, r1, g1⟩
    have G1 := Lib.hid g1
    have R1 := Lib.hid r1
    clear g1 r1 HK1
    go_wp2_with fail
    refine (HK2.out _ R1.out).mono ?_
    rintro e w2 ⟨rfl, r1, g1⟩
    replace G1 := Lib.hid (S2.grown_trans G1.out g1)
    have R2 := Lib.hid r1
    clear g1 r1 HK2 R1
    go_wp2_with fail
    refine (HK3.out _ R2.out).mono ?_
    rintro e w3 ⟨rfl, r1, g1⟩
    replace G1 := Lib.hid (S2.grown_trans G1.out g1)
    have R3 := Lib.hid r1
    clear g1 r1 HK3 R2
    go_wp2_with fail
    refine (HK4.out _).mono ?_
    rintro e w4 ⟨rfl, rfl⟩
    clear HK4
    clear N
    go_wp2
    go_ret2
    exact ⟨rfl, R3.out, G1.out⟩
  · have hf : decide (1048576 < q.length) = false := decide_eq_false h1
    rw [hf] at HK4
    by_cases h2 : q.length = n
    · have h2' : (q.length : Int) = (n : Int) := by omega
      by_cases h3 : c = d
      · have hb : bad = false := by rw [HB.out, hf, decide_eq_false (by simpa using h2), decide_eq_false (by simpa using h3)]; rfl
        subst hb h3
        clear HB hf h1 h2
        go_enter Try.func47, Try.ntmps47
        go_wp2_with fail
        refine HK1.out.mono ?_
        rintro e w1 ⟨rfl, r1, g1⟩
        have G1 := Lib.hid g1
        have R1 := Lib.hid r1
        clear g1 r1 HK1
        go_wp2_with fail
        refine (HK2.out _ R1.out).mono ?_
        rintro e w2 ⟨rfl, r1, g1⟩
        replace G1 := Lib.hid (S2.grown_trans G1.out g1)
        have R2 := Lib.hid r1
        clear g1 r1 HK2 R1
        go_wp2_with fail
        refine (HK3.out _ R2.out).mono ?_
        rintro e w3 ⟨rfl, r1, g1⟩
        replace G1 := Lib.hid (S2.grown_trans G1.out g1)
        have R3 := Lib.hid r1
        clear g1 r1 HK3 R2
        go_wp2_with fail
        refine (HK4.out _).mono ?_
        rintro e w4 ⟨rfl, rfl⟩
        clear HK4
        go_wp2_with fail
        refine (HK5.out _).mono ?_
        rintro e w5 ⟨rfl, hb⟩
        replace G1 := Lib.hid (grown_below G1.out hb)
        replace R3 := Lib.hid (rd_below R3.out hb)
        clear HK5 hb
        clear N
        go_wp2
        go_ret2
        exact ⟨rfl, R3.out, G1.out⟩
      · have hb : bad = true := by rw [HB.out, hf, decide_eq_false (by simpa using h2), decide_eq_true h3]; rfl
        have h3' : (c == d) = false := by simpa using h3
        subst hb
        clear HB hf h1 h2 h3
        go_enter Try.func47, Try.ntmps47
        go_wp2_with fail
        refine HK1.out.mono ?_
        rintro e w1 ⟨rfl, r1, g1⟩
        have G1 := Lib.hid g1
        have R1 := Lib.hid r1
        clear g1 r1 HK1
        go_wp2_with fail
        refine (HK2.out _ R1.out).mono ?_
        rintro e w2 ⟨rfl, r1, g1⟩
        replace G1 := Lib.hid (S2.grown_trans G1.out g1)
        have R2 := Lib.hid r1
        clear g1 r1 HK2 R1
        go_wp2_with fail
        refine (HK3.out _ R2.out).mono ?_
        rintro e w3 ⟨rfl, r1, g1⟩
        replace G1 := Lib.hid (S2.grown_trans G1.out g1)
        have R3 := Lib.hid r1
        clear g1 r1 HK3 R2
        go_wp2_with fail
        refine (HK4.out _).mono ?_
        rintro e w4 ⟨rfl, rfl⟩
        clear HK4
        go_wp2_with fail
        refine (HK5.out _).mono ?_
        rintro e w5 ⟨rfl, hb⟩
        replace G1 := Lib.hid (grown_below G1.out hb)
        replace R3 := Lib.hid (rd_below R3.out hb)
        clear HK5 hb
        clear N
        go_wp2
        go_ret2
        exact ⟨rfl, R3.out, G1.out⟩
    · have hb : bad = true := by rw [HB.out, hf, decide_eq_true h2]; rfl
      have h2' : ¬ (q.length : Int) = (n : Int) := by omega
      subst hb
      clear HB hf h1 h2 HK5
      go_enter Try.func47, Try.ntmps47
      go_wp2_with fail
      refine HK1.out.mono ?_
      rintro e w1 ⟨rfl, r1, g1⟩
      have G1 := Lib.hid g1
      have R1 := Lib.hid r1
      clear g1 r1 HK1
      go_wp2_with fail
      refine (HK2.out _ R1.out).mono ?_
      rintro e w2 ⟨rfl, r1, g1⟩
      replace G1 := Lib.hid (S2.grown_trans G1.out g1)
      have R2 := Lib.hid r1
      clear g1 r1 HK2 R1
      go_wp2_with fail
      refine (HK3.out _ R2.out).mono ?_
      rintro e w3 ⟨rfl, r1, g1⟩
      replace G1 := Lib.hid (S2.grown_trans G1.out g1)
      have R3 := Lib.hid r1
      clear g1 r1 HK3 R2
      go_wp2_with fail
      refine (HK4.out _).mono ?_
      rintro e w4 ⟨rfl, rfl⟩
      clear HK4
      clear N
      go_wp2
      go_ret2
      exact ⟨rfl, R3.out, G1.out⟩

/-- take, at a reader that has not failed: the record at its head, or none. -/
theorem take_any (g : Nat) (l : Str) (w : World) (h : Rd 103 w g (some l)) (hl : l.length ≤ 1099511627776) :
    Calls Try.prog 47 #[ptr g] w fun e w' => w.grownBy w' (some g) ∧ (∃ s, Rd 103 w' g s) ∧
      ((first c4 l = none ∧ e = .returned (.tuple #[.string (S2.B []), .bool false])) ∨ ∃ s t, first c4 l = some (s, t) ∧ e = .returned (.tuple #[.string (S2.B s), .bool true]) ∧ Rd 103 w' g (some t)) := by
  refine (take_gen g (some l) w h hl).mono ?_
  rintro e w' ⟨rfl, h1, h2⟩
  refine ⟨h2, ⟨_, h1⟩, ?_⟩
  rcases tk_first l with ⟨e1, e2⟩ | ⟨e1, e2, e3⟩
  · exact .inl ⟨e2, by rw [e1]; rfl⟩
  · refine .inr ⟨_, _, e2, by rw [e1]; rfl, ?_⟩
    rw [← e3]
    exact h1
end Wl
end Go.Proofs.Ytihanhdepijijaa
