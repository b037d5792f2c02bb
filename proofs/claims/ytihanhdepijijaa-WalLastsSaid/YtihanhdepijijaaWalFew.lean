/-
  Layer 10: few.
-/
import Derived.Test.YtihanhdepijijaaWalArgs
import Derived.Test.YtihanhdepijijaaWalRef
namespace Go.Proofs.Ytihanhdepijijaa
open Go.RowKit
namespace Wl
open S9.Dk (Dk Fr MD isI Rz)
attribute [local go_sem] S2.B_size S2.B_list
def rowW (l : List Str) : Nat := (l.map fun s => min s.length 3000).sum
def actW (a : Ac) : Nat := min a.S.length 3000 + rowW a.L
def actsW (l : List Ac) : Nat := (l.map actW).sum
def actOk (a : Ac) : Bool := decide (a.L.length ≤ 12) && decide (a.K.length ≤ 8)
def fewB (l : List Ac) : Bool := decide (l.length ≤ 30) && (l.all actOk && decide (actsW l ≤ 2000))
theorem rowW_succ (l : List Str) {k : Nat} (h : k < l.length) : rowW (l.take (k + 1)) = rowW (l.take k) + min l[k].length 3000 := by
  rw [List.take_succ_eq_append_getElem h]
  unfold rowW
  simp only [List.map_append, List.sum_append, List.map_cons, List.map_nil, List.sum_cons, List.sum_nil, Nat.add_zero]
theorem actsW_succ (l : List Ac) {k : Nat} (h : k < l.length) : actsW (l.take (k + 1)) = actsW (l.take k) + actW l[k] := by
  rw [List.take_succ_eq_append_getElem h]
  unfold actsW
  simp only [List.map_append, List.sum_append, List.map_cons, List.map_nil, List.sum_cons, List.sum_nil, Nat.add_zero]
theorem rowW_le (l : List Str) : rowW l ≤ l.length * 3000 := by
  unfold rowW
  induction l with
  | nil => simp
  | cons s l ih => simp only [List.map_cons, List.sum_cons, List.length_cons]; omega
theorem actW_le {a : Ac} (h : actOk a = true) : actW a ≤ 39000 := by
  unfold actOk at h
  simp only [Bool.and_eq_true, decide_eq_true_eq] at h
  have := rowW_le a.L
  unfold actW
  omega
theorem actsW_le {l : List Ac} (h : l.all actOk = true) : actsW l ≤ l.length * 39000 := by
  unfold actsW
  induction l with
  | nil => simp
  | cons a l ih =>
    simp only [List.all_cons, Bool.and_eq_true] at h
    have h1 := actW_le h.1
    have h2 := ih h.2
    simp only [List.map_cons, List.sum_cons, List.length_cons]
    omega
/-- What few says of each act. -/
structure Few (a : Ac) : Prop where
  rows : a.L.length ≤ 12
  keep : a.K.length ≤ 8
  s : a.S.length ≤ 2000
  r : ∀ s ∈ a.L, s.length ≤ 2000
theorem few_each {l : List Ac} (h : fewB l = true) : l.length ≤ 30 ∧ ∀ a ∈ l, Few a := by
  unfold fewB at h
  simp only [Bool.and_eq_true, decide_eq_true_eq] at h
  obtain ⟨h1, h2, h3⟩ := h
  refine ⟨h1, fun a ha => ?_⟩
  have ho := List.all_eq_true.1 h2 a ha
  unfold actOk at ho
  simp only [Bool.and_eq_true, decide_eq_true_eq] at ho
  have hw : actW a ≤ actsW l := by
    have : ∀ l : List Ac, a ∈ l → actW a ≤ actsW l := by
      intro l
      induction l with
      | nil => intro h; cases h
      | cons b l ih =>
        intro h
        simp only [actsW, List.map_cons, List.sum_cons]
        rcases List.mem_cons.1 h with rfl | h
        · omega
        · have := ih h; unfold actsW at this; omega
    exact this l ha
  unfold actW at hw
  refine ⟨ho.1, ho.2, by omega, fun s hs => ?_⟩
  have : min s.length 3000 ≤ rowW a.L := by
    have : ∀ l : List Str, s ∈ l → min s.length 3000 ≤ rowW l := by
      intro l
      induction l with
      | nil => intro h; cases h
      | cons b l ih =>
        intro h
        simp only [rowW, List.map_cons, List.sum_cons]
        rcases List.mem_cons.1 h with rfl | h
        · omega
        · have := ih h; unfold rowW at this; omega
    exact this _ hs
  omega
set_option maxHeartbeats 4000000 in
set_option maxRecDepth 100000 in
theorem few_any (X : Nat → Prop) (l : List Ac) (A : Option Addr) (n c : Nat) (hn : n = l.length) (hn2 : n ≤ maxLen) (w : World) (h : As X w A l) :
    Calls Try.prog 9 #[.slice A n c] w fun e w' => e = .returned (.bool (fewB l)) ∧ w = w' := by
  unfold maxLen at hn2
  by_cases h30 : n ≤ 30
  · have h30I : (n : Int) ≤ 30 := by omega
    have HN := Lib.hid hn
    have H := Lib.hid h
    clear hn h hn2
    go_enter Try.func9, Try.ntmps9
    go_wp2_with fail
    go_loopw [3, 4] (fun vs vi wr => ∃ i z : Nat, vi = .int .i64 (i : Int) ∧ vs = .int .i64 (z : Int) ∧ z = actsW (l.take i) ∧ (l.take i).all actOk = true ∧ i ≤ n ∧ w = wr) (fun _ vi _ => n - (intOf vi).toNat)
    case atStart => exact ⟨0, 0, rfl, rfl, rfl, rfl, by omega, rfl⟩
    case round =>
      obtain ⟨i, z, rfl, rfl, hz, hall, hin, rfl⟩ := hrel
      have hzl : z ≤ 1170000 := by
        have h1 := actsW_le hall
        rw [List.length_take] at h1
        omega
      by_cases hlt : i < n
      · have hltI : (i : Int) < n := by omega
        have hil : i < l.length := by rw [← HN.out]; exact hlt
        have hws := actsW_succ l hil
        have htk := List.take_succ_eq_append_getElem hil
        have hgo : fewB l = true → actOk l[i] = true := fun hf => by
          unfold fewB at hf
          simp only [Bool.and_eq_true] at hf
          exact List.all_eq_true.1 hf.2.1 _ (List.getElem_mem hil)
        obtain ⟨ad, rfl, _, hc⟩ := H.out.at_ hil
        have hac := H.out.each l[i] (List.getElem_mem hil)
        obtain ⟨a, ha⟩ : ∃ a, a = l[i] := ⟨_, rfl⟩
        rw [← ha] at hws htk hgo hc hac
        have k1 : w.cell? ⟨(ad.add (i * 5)).block, (ad.add (i * 5)).off + 1, none⟩ = some (.string (S2.B a.S)) := hc 1 _ rfl
        have k2 : w.cell? ⟨(ad.add (i * 5)).block, (ad.add (i * 5)).off + 2, none⟩ = some (.slice a.A a.L.length a.c) := hc 2 _ rfl
        have k4 : w.cell? ⟨(ad.add (i * 5)).block, (ad.add (i * 5)).off + 4, none⟩ = some (.slice a.A' a.K.length a.c') := hc 4 _ rfl
        have hs := hac.slen
        have hl := hac.rlen
        have hk := hac.klen
        obtain ⟨nl, hnl⟩ : ∃ q, q = a.L.length := ⟨_, rfl⟩
        obtain ⟨nk, hnk⟩ : ∃ q, q = a.K.length := ⟨_, rfl⟩
        have hok : actOk a = (decide (nl ≤ 12) && decide (nk ≤ 8)) := by rw [hnl, hnk]; rfl
        rw [← hnl] at k2 hl
        rw [← hnk] at k4 hk
        have hlI : (nl : Int) ≤ 281474976710656 := by omega
        have hkI : (nk : Int) ≤ 281474976710656 := by omega
        have hsI : (a.S.length : Int) ≤ 281474976710656 := by omega
        have HRX := Lib.hid hac.rows
        have HWS := Lib.hid hws
        have HGO := Lib.hid hgo
        have HTK := Lib.hid htk
        have HZ := Lib.hid hz
        have HALL := Lib.hid hall
        have HREACH := Lib.hid hac.reach
        have HNL := Lib.hid hnl
        clear hws hgo htk hz hall hc hac hs hl hk ha hnk hnl
        by_cases hl12 : nl ≤ 12
        case neg =>
          have hl12I : (12 : Int) < (nl : Int) := by omega
          have R := Lib.hid (show false = fewB l by
            cases hf : fewB l with
            | false => rfl
            | true => have := HGO.out hf; rw [hok, decide_eq_false hl12] at this; cases this)
          clear hl12 hok HGO HWS HTK HZ HALL
          go_wp2
          go_ret
          exact ⟨by rw [← R.out]; rfl, rfl⟩
        by_cases hk8 : nk ≤ 8
        case neg =>
          have hl12I : ¬ (12 : Int) < (nl : Int) := by omega
          have hk8I : (8 : Int) < (nk : Int) := by omega
          have R := Lib.hid (show false = fewB l by
            cases hf : fewB l with
            | false => rfl
            | true => have := HGO.out hf; rw [hok, decide_eq_false hk8, Bool.and_false] at this; cases this)
          clear hk8 hl12 hok HGO HWS HTK HZ HALL
          go_wp2
          go_ret
          exact ⟨by rw [← R.out]; rfl, rfl⟩
        have hl12I : ¬ (12 : Int) < (nl : Int) := by omega
        have hk8I : ¬ (8 : Int) < (nk : Int) := by omega
        have HOK := Lib.hid (show actOk a = true by rw [hok, decide_eq_true hl12, decide_eq_true hk8]; rfl)
        obtain ⟨q, hq⟩ : ∃ q, q = min a.S.length 3000 := ⟨_, rfl⟩
        have HQ := Lib.hid hq
        have hzI : (z : Int) ≤ 1170000 := by omega
        have hqI : (q : Int) ≤ 3000 := by omega
        have hwr : IntKind.i64.wrap ((z : Int) + (q : Int)) = (z : Int) + (q : Int) := IntWalk.i64_in _ (by omega)
        have hmin : min (a.S.length : Int) 3000 = (q : Int) := by omega
        have hmin2 : (if 3000 < (a.S.length : Int) then 3000 else (a.S.length : Int)) = (q : Int) := by split <;> omega
        clear hq hok HGO hkI
        go_wp2_with fail
        go_loopw [3, 5] (fun vs vk wr => ∃ k y : Nat, vk = .int .i64 (k : Int) ∧ vs = .int .i64 (y : Int) ∧ y = z + q + rowW (a.L.take k) ∧ k ≤ nl ∧ w = wr) (fun _ vk _ => nl - (intOf vk).toNat)
        case atStart => exact ⟨0, z + q, rfl, by first | rfl | (congr 1; omega), by simp [rowW], by omega, rfl⟩
        case round =>
          obtain ⟨k, y, rfl, rfl, hy, hkn, rfl⟩ := hrel
          have hyl : y ≤ 1300000 := by
            have h1 := rowW_le (a.L.take k)
            rw [List.length_take] at h1
            omega
          by_cases hck : k < nl
          · have hckI : (k : Int) < (nl : Int) := by omega
            have hkL : k < a.L.length := by rw [← HNL.out]; exact hck
            obtain ⟨a2, hA, _, hc2⟩ := HRX.out.at_ hkL
            have hsr := HREACH.out _ (List.getElem_mem hkL)
            have hnx := rowW_succ a.L hkL
            rw [hA] at k2
            obtain ⟨s, hs⟩ : ∃ s, s = a.L[k] := ⟨_, rfl⟩
            rw [← hs] at hc2 hsr hnx
            obtain ⟨u, hu⟩ : ∃ u, u = min s.length 3000 := ⟨_, rfl⟩
            have HU := Lib.hid hu
            have HY := Lib.hid hy
            have HNX := Lib.hid hnx
            have hyI : (y : Int) ≤ 1300000 := by omega
            have huI : (u : Int) ≤ 3000 := by omega
            have hsrI : (s.length : Int) ≤ 281474976710656 := by omega
            have hwr2 : IntKind.i64.wrap ((y : Int) + (u : Int)) = (y : Int) + (u : Int) := IntWalk.i64_in _ (by omega)
            have hmin3 : min (s.length : Int) 3000 = (u : Int) := by omega
            have hmin4 : (if 3000 < (s.length : Int) then 3000 else (s.length : Int)) = (u : Int) := by split <;> omega
            clear hs hnx hu hy hsr hkL hA hyl hmin hmin2
            go_wp2
            go_roundw
            case rel => exact ⟨k + 1, y + u, by go_num, by first | rfl | (congr 1; omega), by rw [HNX.out, ← HU.out, HY.out]; omega, by omega, trivial⟩
            case measure => simp [intOf]; omega
          · have hckI : ¬ (k : Int) < (nl : Int) := by omega
            have hkL : k = a.L.length := by rw [← HNL.out]; omega
            rw [hkL, List.take_length] at hy
            have RR := Lib.hid (show y = actsW (l.take (i + 1)) ∧ (l.take (i + 1)).all actOk = true from ⟨by rw [hy, HWS.out, ← HZ.out, HQ.out]; unfold actW; omega, by rw [HTK.out, List.all_append, HALL.out]; simp [HOK.out]⟩)
            clear hy hkL hck hyl hmin hmin2
            go_wp2
            go_roundw
            case rel => exact ⟨i + 1, y, by go_num, rfl, RR.out.1, RR.out.2, by omega, trivial⟩
            case measure => simp [intOf]; omega
      · have hltI : ¬ (i : Int) < n := by omega
        have hil : l.length ≤ i := by rw [← HN.out]; omega
        rw [List.take_of_length_le hil] at hz hall
        have hzI : (z : Int) ≤ 1170000 := by omega
        have R := Lib.hid (show decide ((z : Int) ≤ 2000) = fewB l by
          unfold fewB
          rw [← HN.out, decide_eq_true h30, hall, hz, Bool.true_and, Bool.true_and]
          exact decide_eq_decide.2 (by omega))
        clear hz hall hil
        go_wp2
        go_ret
        exact ⟨by rw [← R.out]; rfl, rfl⟩
  · have h30I : (30 : Int) < (n : Int) := by omega
    have R : fewB l = false := by unfold fewB; rw [decide_eq_false (by omega)]; rfl
    rw [R]
    clear hn h R h30 hn2
    go_enter Try.func9, Try.ntmps9
    go_wp2
    go_ret
    exact ⟨rfl, rfl⟩
end Wl
end Go.Proofs.Ytihanhdepijijaa
