/-
  The document's own answer for layer 1 (agoraref01): Text and Parse.
-/
import Derived.Test.YtcbhjagcfbinoaaDoorNumRef
import Derived.Test.YtcbhjagcfbinoaaDoorNumRead
import Derived.WalkSpells
namespace Go.Proofs.YtcbhjagcfbinoaaDoor.S1
open Go.RowKit

/-- The quotient and the remainder by ten of a number that is not positive. -/
theorem by_ten (n : Int) (h : n ≤ 0) : n.tmod 10 = -((n.natAbs % 10 : Nat) : Int) ∧ n.tdiv 10 = -((n.natAbs / 10 : Nat) : Int) := by
  obtain ⟨m, rfl⟩ : ∃ m : Nat, n = -(m : Int) := ⟨n.natAbs, by omega⟩
  rw [Int.neg_tmod, Int.neg_tdiv, Int.tmod_eq_emod_of_nonneg (by omega), Int.tdiv_eq_ediv_of_nonneg (by omega)]
  have : (-(m : Int)).natAbs = m := by omega
  rw [this]
  omega
def digs : ByteArray := ⟨#[48, 49, 50, 51, 52, 53, 54, 55, 56, 57]⟩
theorem digs_fin : ∀ i : Fin 10, (digs.extract i.val (i.val + 1)).data.toList = [UInt8.ofNat (48 + i.val)] := by decide +kernel
theorem digs_at (d : Nat) (h : d < 10) : (digs.extract d (d + 1)).data.toList = [UInt8.ofNat (48 + d)] := digs_fin ⟨d, h⟩
theorem str_eq {a : ByteArray} {l : List UInt8} (h : a.data.toList = l) : Value.string a = .string ⟨l.toArray⟩ := by
  subst h; rfl

set_option maxHeartbeats 400000 in
theorem digitsR_any (k : Nat) : ∀ (n : Int) (w : World), n.natAbs ≤ k → -9223372036854775808 ≤ n → n ≤ 0 →
    Calls Tryd.prog 44 #[.int .i64 n] w fun e w' => e = .returned (.string ⟨(Lib.decDigits n.natAbs).toArray⟩) ∧ w' = w := by
  induction k with
  | zero =>
    intro n w hk h0 h1
    obtain rfl : n = 0 := by omega
    go_enter Tryd.func44, Tryd.ntmps44
    go_wp2_with fail
    go_ret
    exact ⟨congrArg _ (str_eq (by decide +kernel)), rfl⟩
  | succ k ih =>
    intro n w hk h0 h1
    obtain ⟨u, d, hu, hd⟩ : ∃ u d : Nat, n.natAbs / 10 = u ∧ n.natAbs % 10 = d := ⟨_, _, rfl, rfl⟩
    have ht := by_ten n h1
    rw [hu, hd] at ht
    obtain ⟨t1, t2⟩ := ht
    have hl : d < 10 := by omega
    have hp := digs_at d hl
    have HP := Lib.hid hp
    by_cases hs : -10 < n
    · have he : Lib.decDigits n.natAbs = [UInt8.ofNat (48 + d)] := by rw [Lib.decDigits_one (by omega)]; congr 3; omega
      rw [he]
      clear he hp hu hd hk ih
      go_enter Tryd.func44, Tryd.ntmps44
      go_wp2_with fail
      go_ret
      refine ⟨congrArg _ (str_eq ?_), rfl⟩
      rw [ByteArray.data_append]
      simpa [digs] using HP.out
    · have he : Lib.decDigits n.natAbs = Lib.decDigits u ++ [UInt8.ofNat (48 + d)] := by rw [Lib.decDigits, dif_neg (by omega), hu, hd]
      have hc := ih (-(u : Int)) w (by omega) (by omega) (by omega)
      rw [show (-(u : Int)).natAbs = u by omega] at hc
      have HC := Lib.hid hc
      rw [he]
      have hub : (u : Int) ≤ 922337203685477580 := by omega
      have hlen : (Lib.decDigits u).length ≤ 20 := by rw [Lib.decDigits_length]; exact Lib.nDigits_le20 u (by omega)
      clear he hp hu hd hk ih hc
      go_enter Tryd.func44, Tryd.ntmps44
      go_wp2_with fail
      refine HC.out.mono ?_
      rintro e w1 ⟨rfl, rfl⟩
      go_wp2_with fail
      go_ret
      refine ⟨congrArg _ (str_eq ?_), rfl⟩
      rw [ByteArray.data_append, Array.toList_append]
      exact congrArg (Lib.decDigits u ++ ·) HP.out

set_option maxHeartbeats 400000 in
theorem textR_any (n : Int) (w : World) (hn : isI64 n) :
    Calls Tryd.prog 27 #[.int .i64 n] w fun e w' => e = .returned (.string ⟨(Lib.itoa n).toArray⟩) ∧ w' = w := by
  obtain ⟨h0, h1⟩ := hn
  by_cases hs : n < 0
  · have hc := Lib.hid (digitsR_any n.natAbs n w (Nat.le_refl _) h0 (by omega))
    have hlen : (Lib.decDigits n.natAbs).length ≤ 20 := by rw [Lib.decDigits_length]; exact Lib.nDigits_le20 _ (by omega)
    have he : Lib.itoa n = 45 :: Lib.decDigits n.natAbs := by unfold Lib.itoa; rw [if_pos hs]
    rw [he]
    clear he
    go_enter Tryd.func27, Tryd.ntmps27
    go_wp2_with fail
    refine hc.out.mono ?_
    rintro e w1 ⟨rfl, rfl⟩
    go_wp2_with fail
    go_ret
    refine ⟨congrArg _ (str_eq ?_), rfl⟩
    rw [ByteArray.data_append, Array.toList_append]
    rfl
  · have hc := digitsR_any n.natAbs (-n) w (by omega) (by omega) (by omega)
    have he : Lib.itoa n = Lib.decDigits (-n).natAbs := by unfold Lib.itoa; rw [if_neg hs]; congr 1; omega
    rw [← he] at hc
    have HC := Lib.hid hc
    clear he hc
    go_enter Tryd.func27, Tryd.ntmps27
    go_wp2_with fail
    refine HC.out.mono ?_
    rintro e w1 ⟨rfl, rfl⟩
    go_wp2_with fail
    go_ret
    exact ⟨rfl, rfl⟩

/-! ### Parse: the number that its loop reckons -/
def accStep (n : Int) (c : UInt8) : Int := wrap64 (wrap64 (10 * n) - ((c.toNat : Int) - 48))
def acc (l : List UInt8) : Int := l.foldl accStep 0
theorem acc_snoc (l : List UInt8) (c : UInt8) : acc (l ++ [c]) = accStep (acc l) c := by unfold acc; rw [List.foldl_append]; rfl
theorem wrap64_i64 (n : Int) : isI64 (wrap64 n) := by unfold wrap64 isI64; omega
theorem acc_i64 (l : List UInt8) : isI64 (acc l) := by
  rcases List.eq_nil_or_concat l with rfl | ⟨r, c, rfl⟩
  · unfold acc isI64; decide
  · rw [List.concat_eq_append, acc_snoc]; exact wrap64_i64 _
theorem acc_dec (u : Nat) (h : u ≤ 9223372036854775808) : acc (Lib.decDigits u) = -(u : Int) := by
  induction u using Nat.strongRecOn with
  | ind u ih =>
    rw [Lib.decDigits]
    split
    · rename_i hu
      unfold acc accStep
      simp only [List.foldl_cons, List.foldl_nil, Dec.dig_toNat u hu]
      unfold wrap64; omega
    · rw [acc_snoc, ih (u / 10) (by omega) (by omega)]
      unfold accStep
      rw [Dec.dig_toNat _ (by omega)]
      unfold wrap64; omega
theorem take_succ_at (l : List UInt8) (j : Nat) (h : j < l.length) : l.take (j + 1) = l.take j ++ [l[j]] := by
  rw [List.take_succ_eq_append_getElem h]

/-- What the loop ends in: the number, its sign turned where there is no '-'. -/
def refN (a : Nat) (l : List UInt8) : Int := if a = 1 then acc (l.drop 1) else wrap64 (-(acc l))
theorem refN_i64 (a : Nat) (l : List UInt8) : isI64 (refN a l) := by
  unfold refN; split
  · exact acc_i64 _
  · exact wrap64_i64 _
/-- Where the digits begin. -/
def signAt (l : List UInt8) : Nat := if l.head?.map (·.toNat) = some 45 then 1 else 0
theorem itoa_shape (m : Int) (hm : isI64 m) (l : List UInt8) (h : Lib.itoa m = l) : ∃ u : Nat, u ≤ 9223372036854775808 ∧ l.drop (signAt l) = Lib.decDigits u ∧ (signAt l = 1 → m = -(u : Int)) ∧ (signAt l = 0 → m = u ∧ u ≤ 9223372036854775807) := by
  obtain ⟨h0, h1⟩ := hm
  subst h
  unfold Lib.itoa signAt
  split
  · rename_i hneg
    refine ⟨m.natAbs, by omega, ?_, fun _ => by omega, ?_⟩
    · simp
    · simp
  · rename_i hneg
    obtain ⟨c, r, hc, hd⟩ := Dec.dec_head m.toNat
    have hn : ¬ (Lib.decDigits m.toNat).head?.map (·.toNat) = some 45 := by rw [hc]; simp; omega
    refine ⟨m.toNat, by omega, ?_, ?_, fun _ => by omega⟩
    · rw [if_neg hn]; rfl
    · rw [if_neg hn]; intro h; cases h
theorem refN_itoa (m : Int) (hm : isI64 m) (l : List UInt8) (h : Lib.itoa m = l) : refN (signAt l) l = m := by
  obtain ⟨u, hu, hd, h1, h0⟩ := itoa_shape m hm l h
  have hs : signAt l = 0 ∨ signAt l = 1 := by unfold signAt; split <;> simp
  unfold refN
  rcases hs with hs | hs <;> rw [hs] at hd ⊢
  · have hu2 := h0 hs
    rw [if_neg (by decide), show l = Lib.decDigits u from hd, acc_dec u hu]
    unfold wrap64; omega
  · rw [if_pos rfl, hd, acc_dec u hu]
    exact (h1 hs).symm
theorem nDigits_ge (u k : Nat) (h : k < Lib.nDigits u) : 10 ^ k ≤ u ∨ k = 0 := by
  induction k generalizing u with
  | zero => exact .inr rfl
  | succ k ih =>
    by_cases hu : u < 10
    · rw [Lib.nDigits_small hu] at h; omega
    · rw [Lib.nDigits_big hu] at h
      rcases ih (u / 10) (by omega) with h1 | h1
      · left; rw [Nat.pow_succ]; omega
      · subst h1; left; omega
theorem itoa_len (m : Int) (hm : isI64 m) (l : List UInt8) (h : Lib.itoa m = l) : signAt l < l.length ∧ l.length ≤ signAt l + 19 ∧ ∀ c ∈ l.drop (signAt l), 48 ≤ c.toNat ∧ c.toNat ≤ 57 := by
  obtain ⟨u, hu, hd, _⟩ := itoa_shape m hm l h
  have hl : (l.drop (signAt l)).length = Lib.nDigits u := by rw [hd, Lib.decDigits_length]
  rw [List.length_drop] at hl
  have h1 := Lib.nDigits_pos u
  have h19 : Lib.nDigits u ≤ 19 := by
    rcases Nat.lt_or_ge u 10000000000000000000 with h | h
    · rcases Nat.eq_zero_or_pos u with rfl | hp
      · rw [Lib.nDigits_small (by omega)]; omega
      · have hb : ¬ 20 ≤ Lib.nDigits u := fun hc => by
          have hx := nDigits_ge u 19 (by omega)
          omega
        omega
    · omega
  refine ⟨by omega, by omega, ?_⟩
  rw [hd]
  exact Dec.dec_bytes u

/-- The answer of Parse, behind a definition. -/
def ParseRes (l : List UInt8) (low high : Int) (e : Ending) : Prop := ∃ x ok, ParseIs l low high x ok ∧ e = .returned (.tuple #[.int .i64 x, .bool ok])
theorem ParseRes.no {l : List UInt8} {low high : Int} (h : ∀ m, isI64 m → Lib.itoa m = l → False) : ParseRes l low high (.returned (.tuple #[.int .i64 0, .bool false])) :=
  ⟨0, false, .inr ⟨rfl, rfl, fun ⟨m, h1, h2, _⟩ => h m h1 h2⟩, rfl⟩
theorem ParseRes.yes {l : List UInt8} {low high n : Int} (hn : isI64 n) (h : Lib.itoa n = l) (h1 : low ≤ n) (h2 : n ≤ high) : ParseRes l low high (.returned (.tuple #[.int .i64 n, .bool true])) :=
  ⟨n, true, .inl ⟨rfl, hn, h, h1, h2⟩, rfl⟩
theorem ParseRes.out {l : List UInt8} {low high n : Int} (hu : ∀ m, isI64 m → Lib.itoa m = l → m = n) (h : ¬ (Lib.itoa n = l ∧ low ≤ n ∧ n ≤ high)) : ParseRes l low high (.returned (.tuple #[.int .i64 0, .bool false])) :=
  ⟨0, false, .inr ⟨rfl, rfl, fun ⟨m, h1, h2, h3, h4⟩ => by
    have := hu m h1 h2
    subst this
    exact h ⟨h2, h3, h4⟩⟩, rfl⟩
theorem bt_list (s : ByteArray) (k : Nat) (h : k < s.data.toList.length) : PlainAid.bt s k = ((s.data.toList[k]).toNat : Int) := by
  unfold PlainAid.bt
  rw [dif_pos (by simpa using h)]
  rfl
theorem sign_bt (s : ByteArray) (h : 0 < s.size) : (PlainAid.bt s 0 = 45 → signAt s.data.toList = 1) ∧ (PlainAid.bt s 0 ≠ 45 → signAt s.data.toList = 0) := by
  have hl : 0 < s.data.toList.length := by rw [← Lib.size_eq]; exact h
  rw [bt_list s 0 hl]
  unfold signAt
  rw [List.head?_eq_getElem?, List.getElem?_eq_getElem hl]
  simp only [Option.map_some, Option.some.injEq]
  constructor
  · intro e; rw [if_pos (by omega)]
  · intro e; rw [if_neg (by omega)]

theorem acc_step (s : ByteArray) (a j : Nat) (h : a + j < s.size) : acc ((s.data.toList.drop a).take (j + 1)) = wrap64 (wrap64 (10 * acc ((s.data.toList.drop a).take j)) - (PlainAid.bt s (a + j) - 48)) := by
  have hl : s.data.toList.length = s.size := (Lib.size_eq s).symm
  rw [take_succ_at _ j (by rw [List.length_drop]; omega), acc_snoc, bt_list s (a + j) (by omega), List.getElem_drop]
  rfl
theorem bt_digit (s : ByteArray) (a j : Nat) (h : a + j < s.size) (ha : signAt s.data.toList = a) (m : Int) (hm : isI64 m) (he : Lib.itoa m = s.data.toList) : 48 ≤ PlainAid.bt s (a + j) ∧ PlainAid.bt s (a + j) ≤ 57 := by
  have hl : s.data.toList.length = s.size := (Lib.size_eq s).symm
  have h3 := (itoa_len m hm _ he).2.2
  rw [ha] at h3
  have := h3 (s.data.toList[a + j]'(by omega)) (List.mem_drop_iff_getElem.2 ⟨j, by omega, by congr 1⟩)
  rw [bt_list s (a + j) (by omega)]
  omega
theorem refN_of (s : ByteArray) (a : Nat) (ha : a = 0 ∨ a = 1) : (a = 1 → acc ((s.data.toList.drop a).take (s.size - a)) = refN a s.data.toList) ∧ (a = 0 → wrap64 (-(acc ((s.data.toList.drop a).take (s.size - a)))) = refN a s.data.toList) := by
  have hl : s.data.toList.length = s.size := (Lib.size_eq s).symm
  rw [List.take_of_length_le (by rw [List.length_drop]; omega)]
  unfold refN
  rcases ha with rfl | rfl
  · exact ⟨fun h => absurd h (by decide), fun _ => by rw [if_neg (by decide)]; rfl⟩
  · exact ⟨fun _ => by rw [if_pos rfl], fun h => absurd h (by decide)⟩

end Go.Proofs.YtcbhjagcfbinoaaDoor.S1
