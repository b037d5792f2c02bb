/-
  Layer 12: reading an activity, in plain Lean: a state is what is left, or none where the reader has failed.
-/
import Derived.Test.YtojbicpchjiplaaGreatDoorActPv
import Derived.Test.YtojbicpchjiplaaGreatDoorCodeRd2
namespace Go.Proofs.YtojbicpchjiplaaGreatDoor
open Go.RowKit
namespace Ax
open S11.Idt (Str isId isName ids)
open S2.Cd S2
def tT (s : St) : Str × St := (val [] (s.bind decT), rest (s.bind decT))
def tN (s : St) : Int × St := ((val 0 (s.bind decN) : Nat), rest (s.bind decN))
def tL (s : St) : List Str × St := (val [] (s.bind (decL decT)), rest (s.bind (decL decT)))
def tB (s : St) : Bx × St := (⟨(tT s).1, (tT (tT s).2).1, (tT (tT (tT s).2).2).1⟩, (tT (tT (tT s).2).2).2)
def tW (s : St) : Wr × St := (⟨(tN s).1, (tN (tN s).2).1, (tB (tN (tN s).2).2).1⟩, (tB (tN (tN s).2).2).2)
def tWs : Nat → St → List Wr × St
  | 0, s => ([], s)
  | k + 1, s => ((tW s).1 :: (tWs k (tW s).2).1, (tWs k (tW s).2).2)
/-- The wraps: a count, and as many, but no more than 65. -/
def tQ (s : St) : List Wr × St := tWs (min (val 0 (s.bind decN)) 65) (rest (s.bind decN))
theorem T_back {x r : Str} (h : okT x) : tT (some (encT x ++ r)) = (x, some r) := by
  unfold tT
  rw [Option.bind_some, codecT.back _ _ h]
  rfl
theorem N_back {n : Int} {r : Str} (h : okZ n) : tN (some (numB n ++ r)) = (n, some r) := by
  have h1 := codecZ.back n r h
  unfold decZ at h1
  unfold tN
  rw [Option.bind_some]
  rcases hd : decN (numB n ++ r) with _ | ⟨k, q⟩
  · rw [hd] at h1; cases h1
  · rw [hd] at h1
    simp only [Option.map_some, Option.some.injEq, Prod.mk.injEq] at h1
    obtain ⟨rfl, rfl⟩ := h1
    rfl
theorem L_back {l : List Str} {r : Str} (h : okL okT l) : tL (some (encL encT l ++ r)) = (l, some r) := by
  unfold tL
  rw [Option.bind_some, codecTs.back _ _ h]
  rfl
theorem B_back {b : Bx} {r : Str} (h : okB b) : tB (some (bxB b ++ r)) = (b, some r) := by
  unfold tB bxB
  rw [List.append_assoc, T_back h.1]
  simp only []
  rw [List.append_assoc, T_back h.2.1]
  simp only []
  rw [T_back h.2.2]
theorem W_back {w : Wr} {r : Str} (h : okW w) : tW (some (wrB w ++ r)) = (w, some r) := by
  unfold tW wrB
  rw [List.append_assoc, N_back h.1]
  simp only []
  rw [List.append_assoc, N_back h.2.1]
  simp only []
  rw [B_back h.2.2]
theorem Ws_back : ∀ {ws : List Wr} {r : Str}, (∀ w ∈ ws, okW w) → tWs ws.length (some (encM wrB ws ++ r)) = (ws, some r)
  | [], r, _ => rfl
  | w :: ws, r, h => by
    rw [List.length_cons, tWs, encM, List.append_assoc, W_back (h w (by simp))]
    simp only []
    rw [Ws_back (fun x hx => h x (by simp [hx]))]
theorem Q_back {ws : List Wr} {r : Str} (h : okL okW ws) (hl : ws.length ≤ 64) : tQ (some (encL wrB ws ++ r)) = (ws, some r) := by
  unfold tQ encL
  rw [List.append_assoc, Option.bind_some, codecN.back _ _ h.1]
  show tWs (min ws.length 65) (some (encM wrB ws ++ r)) = _
  rw [Nat.min_eq_left (by omega)]
  exact Ws_back h.2
theorem T_again {s : St} {r : Str} (h : (tT s).2 = some r) : s = some (encT (tT s).1 ++ r) := by
  unfold tT at h ⊢
  rcases s with _ | l
  · cases h
  · rw [Option.bind_some] at h ⊢
    rcases hd : decT l with _ | ⟨a, q⟩
    · rw [hd] at h; cases h
    · rw [hd] at h
      obtain rfl : q = r := Option.some.inj h
      exact congrArg some (codecT.again _ _ _ hd).1
theorem N_again {s : St} {r : Str} (h : (tN s).2 = some r) : s = some (numB (tN s).1 ++ r) := by
  unfold tN at h ⊢
  rcases s with _ | l
  · cases h
  · rw [Option.bind_some] at h ⊢
    rcases hd : decN l with _ | ⟨a, q⟩
    · rw [hd] at h; cases h
    · rw [hd] at h
      obtain rfl : q = r := Option.some.inj h
      have := (codecN.again _ _ _ hd).1
      refine congrArg some ?_
      show l = numB ((a : Nat) : Int) ++ q
      unfold numB
      rw [if_neg (by omega), Int.toNat_natCast]
      exact this
theorem L_again {s : St} {r : Str} (h : (tL s).2 = some r) : s = some (encL encT (tL s).1 ++ r) := by
  unfold tL at h ⊢
  rcases s with _ | l
  · cases h
  · rw [Option.bind_some] at h ⊢
    rcases hd : decL decT l with _ | ⟨a, q⟩
    · rw [hd] at h; cases h
    · rw [hd] at h
      obtain rfl : q = r := Option.some.inj h
      exact congrArg some (codecTs.again _ _ _ hd).1
theorem B_again {s : St} {r : Str} (h : (tB s).2 = some r) : s = some (bxB (tB s).1 ++ r) := by
  have h3 := T_again (s := (tT (tT s).2).2) h
  have h2 := T_again (s := (tT s).2) h3
  have h1 := T_again (s := s) h2
  refine h1.trans ?_
  simp [tB, bxB]
theorem W_again {s : St} {r : Str} (h : (tW s).2 = some r) : s = some (wrB (tW s).1 ++ r) := by
  have h3 := B_again (s := (tN (tN s).2).2) h
  have h2 := N_again (s := (tN s).2) h3
  have h1 := N_again (s := s) h2
  refine h1.trans ?_
  simp [tW, wrB]
theorem Ws_len2 : ∀ (k : Nat) (s : St), (tWs k s).1.length = k
  | 0, _ => rfl
  | k + 1, s => by rw [tWs, List.length_cons, Ws_len2 k]
theorem Ws_again : ∀ {k : Nat} {s : St} {r : Str}, (tWs k s).2 = some r → s = some (encM wrB (tWs k s).1 ++ r)
  | 0, s, r, h => h
  | k + 1, s, r, h => by
    have h2 := Ws_again (k := k) (s := (tW s).2) h
    refine (W_again h2).trans ?_
    rw [tWs, encM, List.append_assoc]
theorem Q_again {s : St} {r : Str} (h : (tQ s).2 = some r) (hl : (tQ s).1.length ≤ 64) : s = some (encL wrB (tQ s).1 ++ r) := by
  unfold tQ at h hl ⊢
  rw [Ws_len2] at hl
  have hn : min (val 0 (s.bind decN)) 65 = val 0 (s.bind decN) := by omega
  rw [hn] at h hl ⊢
  have h1 := Ws_again h
  have h2 := N_again (s := s) h1
  refine h2.trans (congrArg some ?_)
  unfold encL
  rw [Ws_len2, List.append_assoc]
  congr 1
/-- What follows an activity's opening: the activity, its signature, what is left. -/
def tA (s0 : St) : (Ac × Int × Int) × St :=
  let s1 := (tT s0).2
  let s2 := (tN s1).2
  let s3 := (tT s2).2
  let s4 := (tN s3).2
  let s5 := (tN s4).2
  let s6 := (tT s5).2
  let s7 := (tT s6).2
  let s8 := (tN s7).2
  let s9 := (tT s8).2
  let s10 := (tL s9).2
  let s11 := (tT s10).2
  let s12 := (tB s11).2
  let s13 := (tN s12).2
  let s14 := (tQ s13).2
  let s15 := (tN s14).2
  let s16 := (tN s15).2
  let s17 := (tN s16).2
  ((⟨(tT s0).1, (tN s1).1, (tT s2).1, (tN s3).1, (tN s4).1, (tT s5).1, (tT s6).1, (tN s7).1, (tT s8).1, (tL s9).1, (tT s10).1, (tB s11).1, (tN s12).1, (tQ s13).1, (tN s14).1, (tN s15).1⟩, (tN s16).1, (tN s17).1), (tN s17).2)
theorem A_back {a : Ac} {e g : Int} (h : valid a e g = true) : tT (some (bytesB a e g)) = ([97, 99, 116], (tT (some (bytesB a e g))).2) ∧ tA (tT (some (bytesB a e g))).2 = ((a, e, g), some []) := by
  have o := valid_ok h
  have hs := valid_sig h
  have hw := (lim_of (valid_good h)).wraps.2
  unfold bytesB coreB actT
  simp only [List.append_assoc]
  rw [T_back (by unfold okT okN; simp)]
  refine ⟨rfl, ?_⟩
  unfold tA
  simp only [T_back o.author, N_back o.seq, T_back o.prev, N_back o.kind, N_back o.time, T_back o.object, T_back o.target, N_back o.scope, T_back o.group, L_back o.to, T_back o.text, B_back o.body, N_back o.epoch, Q_back o.wraps hw, N_back o.n, N_back o.m, N_back (show okZ e by unfold okZ; omega)]
  have : tN (some (numB g)) = (g, some []) := by
    have := N_back (r := []) (show okZ g by unfold okZ; omega)
    rwa [List.append_nil] at this
  rw [this]
theorem A_again {t : Str} {a : Ac} {e g : Int} (h1 : (tT (some t)).1 = [97, 99, 116]) (h2 : tA (tT (some t)).2 = ((a, e, g), some [])) (hv : valid a e g = true) : bytesB a e g = t := by
  have hw := (lim_of (valid_good hv)).wraps.2
  generalize hs : (tT (some t)).2 = s0 at h2
  unfold tA at h2
  simp only [Prod.mk.injEq] at h2
  obtain ⟨⟨ha, he, hg⟩, hr⟩ := h2
  have k17 := N_again hr
  have k16 := N_again k17
  have k15 := N_again k16
  have k14 := N_again k15
  have k13 := Q_again k14 (by rw [← ha] at hw; exact hw)
  have k12 := N_again k13
  have k11 := B_again k12
  have k10 := T_again k11
  have k9 := L_again k10
  have k8 := T_again k9
  have k7 := N_again k8
  have k6 := T_again k7
  have k5 := T_again k6
  have k4 := N_again k5
  have k3 := N_again k4
  have k2 := T_again k3
  have k1 := N_again k2
  have k0 := T_again k1
  have kk := T_again (hs.trans k0)
  rw [h1] at kk
  have kt := Option.some.inj kk
  rw [kt, ← ha, ← he, ← hg]
  unfold bytesB coreB actT
  simp only [List.append_assoc, List.append_nil]
/-! ### Lengths of what is read -/
theorem T_le (s : St) : (tT s).1.length ≤ (lft s).length ∧ (lft (tT s).2).length ≤ (lft s).length := by
  refine ⟨?_, lft_rest codecT s⟩
  unfold tT
  rcases s with _ | l
  · simp [val]
  · rw [Option.bind_some]
    rcases hd : decT l with _ | ⟨a, q⟩
    · simp [val]
    · have := (codecT.again _ _ _ hd).1
      show a.length ≤ l.length
      rw [this, List.length_append]
      unfold encT
      rw [List.length_append]
      omega
theorem N_le (s : St) : (lft (tN s).2).length ≤ (lft s).length := lft_rest codecN s
theorem mem_encM {l : List Str} {x : Str} (h : x ∈ l) : x.length ≤ (encM encT l).length := by
  induction l with
  | nil => cases h
  | cons y l ih =>
    rw [encM, List.length_append]
    rcases List.mem_cons.1 h with rfl | h
    · unfold encT
      rw [List.length_append]
      omega
    · have := ih h
      omega
theorem L_le (s : St) : (tL s).1.length ≤ (lft s).length ∧ (∀ x ∈ (tL s).1, x.length ≤ (lft s).length) ∧ (lft (tL s).2).length ≤ (lft s).length := by
  refine ⟨?_, ?_, lft_rest codecTs s⟩
  all_goals
    unfold tL
    rcases s with _ | l
    · simp [val]
    · rw [Option.bind_some]
      rcases hd : decL decT l with _ | ⟨a, q⟩
      · simp [val]
      · have h := codecTs.again _ _ _ hd
        have hl : (encM encT a).length ≤ l.length := by rw [h.1, encL, List.length_append, List.length_append]; omega
        first
        | exact Nat.le_trans (encM_length (fun a _ => encT_ne a) a h.2.2) hl
        | exact fun x hx => Nat.le_trans (mem_encM hx) hl
theorem B_le (s : St) : ((tB s).1.nonce.length ≤ (lft s).length ∧ (tB s).1.data.length ≤ (lft s).length ∧ (tB s).1.tag.length ≤ (lft s).length) ∧ (lft (tB s).2).length ≤ (lft s).length := by
  have h1 := T_le s
  have h2 := T_le (tT s).2
  have h3 := T_le (tT (tT s).2).2
  simp only [tB]
  omega
theorem W_le (s : St) : ((tW s).1.box.nonce.length ≤ (lft s).length ∧ (tW s).1.box.data.length ≤ (lft s).length ∧ (tW s).1.box.tag.length ≤ (lft s).length) ∧ (lft (tW s).2).length ≤ (lft s).length := by
  have h1 := N_le s
  have h2 := N_le (tN s).2
  have h3 := B_le (tN (tN s).2).2
  simp only [tW]
  omega
theorem Ws_le : ∀ (k : Nat) (s : St), (∀ w ∈ (tWs k s).1, w.box.nonce.length ≤ (lft s).length ∧ w.box.data.length ≤ (lft s).length ∧ w.box.tag.length ≤ (lft s).length) ∧ (lft (tWs k s).2).length ≤ (lft s).length
  | 0, s => ⟨fun w h => absurd h (by simp [tWs]), Nat.le_refl _⟩
  | k + 1, s => by
    have h1 := W_le s
    have h2 := Ws_le k (tW s).2
    refine ⟨fun w h => ?_, Nat.le_trans h2.2 h1.2⟩
    rw [tWs] at h
    rcases List.mem_cons.1 h with rfl | h
    · exact h1.1
    · have := h2.1 w h
      omega
theorem Q_le (s : St) : (tQ s).1.length ≤ 65 ∧ (∀ w ∈ (tQ s).1, w.box.nonce.length ≤ (lft s).length ∧ w.box.data.length ≤ (lft s).length ∧ w.box.tag.length ≤ (lft s).length) ∧ (lft (tQ s).2).length ≤ (lft s).length := by
  have h1 := N_le s
  have h2 := Ws_le (min (val 0 (s.bind decN)) 65) (tN s).2
  refine ⟨by unfold tQ; rw [Ws_len2]; omega, fun w hw => ?_, Nat.le_trans h2.2 h1⟩
  have := h2.1 w hw
  omega
theorem A_sz (s0 : St) {N : Nat} (h : (lft s0).length ≤ N) (h65 : 65 ≤ N) : Sz N N (tA s0).1.1 := by
  unfold tA
  simp only
  have k0 := T_le s0
  generalize hs1 : (tT s0).2 = s1 at *
  have k1 := N_le s1
  generalize (tN s1).2 = s2 at *
  have k2 := T_le s2
  generalize (tT s2).2 = s3 at *
  have k3 := N_le s3
  generalize (tN s3).2 = s4 at *
  have k4 := N_le s4
  generalize (tN s4).2 = s5 at *
  have k5 := T_le s5
  generalize (tT s5).2 = s6 at *
  have k6 := T_le s6
  generalize (tT s6).2 = s7 at *
  have k7 := N_le s7
  generalize (tN s7).2 = s8 at *
  have k8 := T_le s8
  generalize (tT s8).2 = s9 at *
  have k9 := L_le s9
  generalize (tL s9).2 = s10 at *
  have k10 := T_le s10
  generalize (tT s10).2 = s11 at *
  have k11 := B_le s11
  generalize (tB s11).2 = s12 at *
  have k12 := N_le s12
  generalize (tN s12).2 = s13 at *
  have k13 := Q_le s13
  have c9 : (lft s9).length ≤ N := by omega
  have c13 : (lft s13).length ≤ N := by omega
  refine ⟨(by simp only; omega), (by simp only; omega), (by simp only; omega), (by simp only; omega), (by simp only; omega), (by simp only; omega), (by simp only; omega), (by simp only; omega), (by simp only; omega), (by simp only; omega), fun x hx => Nat.le_trans (k9.2.1 x hx) c9, (by simp only; omega), fun w hw => ?_⟩
  have := k13.2.1 w hw
  omega
end Ax
end Go.Proofs.YtojbicpchjiplaaGreatDoor
