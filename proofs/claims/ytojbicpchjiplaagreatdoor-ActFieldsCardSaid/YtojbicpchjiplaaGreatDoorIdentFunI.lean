/-
  IdentMore, IdentFunN, IdentFunI: joined.
-/
import Derived.Test.YtojbicpchjiplaaGreatDoorIdentRefN
import Derived.Test.YtojbicpchjiplaaGreatDoorSumUnAny
import Derived.Laws.RangeString
import Derived.Laws.RangeAny
/-
  Layer 11, plain Lean for the landed code: ids by Unhex, handles by the first '@'.
-/
namespace Go.Proofs.YtojbicpchjiplaaGreatDoor.S11
namespace Idt
theorem dig_hexc (c : UInt8) : hexc c = true ↔ S3.dig c.toNat ≠ 16 := by
  rw [hexc_nat]
  unfold S3.dig
  simp only [Bool.or_eq_true, Bool.and_eq_true, decide_eq_true_eq]
  split
  · rename_i h
    exact ⟨fun _ => by omega, fun _ => .inl h⟩
  · rename_i h
    split
    · rename_i h2
      exact ⟨fun _ => by omega, fun _ => .inr h2⟩
    · rename_i h2
      exact ⟨fun hh => by rcases hh with hh | hh <;> contradiction, fun hh => absurd rfl hh⟩
theorem unhex_all : ∀ l : Str, l.length % 2 = 0 → (S3.unhex l).isSome = l.all hexc
  | [], _ => rfl
  | [_], h => by simp at h
  | a :: b :: l, h => by
    have ih := unhex_all l (by simp only [List.length_cons] at h; omega)
    have ha := dig_hexc a
    have hb := dig_hexc b
    rw [S3.unhex, List.all_cons, List.all_cons]
    by_cases h1 : S3.dig a.toNat = 16
    · rw [if_pos (.inl h1), show hexc a = false from by cases hh : hexc a with | false => rfl | true => exact absurd h1 (ha.1 hh)]
      rfl
    by_cases h2 : S3.dig b.toNat = 16
    · rw [if_pos (.inr h2), show hexc b = false from by cases hh : hexc b with | false => rfl | true => exact absurd h2 (hb.1 hh), Bool.false_and, Bool.and_false]
      rfl
    · rw [if_neg (by omega), Option.isSome_map, ih, ha.2 h1, hb.2 h2]
      rfl
theorem id_unhex {l : Str} (h : l.length = 16) : isId l = (S3.unhex l).isSome := by
  unfold isId
  rw [decide_eq_true h, Bool.and_true, unhex_all l (by omega)]
theorem id_long {l : Str} (h : ¬ l.length = 16) : isId l = false := by
  unfold isId
  rw [decide_eq_false h, Bool.and_false]
end Idt
end Go.Proofs.YtojbicpchjiplaaGreatDoor.S11

/-
  Layer 11: the package's Right and Name.
-/
namespace Go.Proofs.YtojbicpchjiplaaGreatDoor.S11
open Go.RowKit
namespace Idt
attribute [local go_sem] S2.B_size S2.B_drop' S2.B_take S2.B_list S2.B_app
set_option maxHeartbeats 1000000 in
set_option maxRecDepth 100000 in
theorem right_any (l : Str) (w : World) (hl : l.length ≤ 1125899906842624) :
    Calls Tryz.prog 29 #[.string (S2.B l)] w fun e w' => e = .returned (.bool (isId l)) ∧ Below w.heap.size w w' := by
  have hl3 : (l.length : Int) ≤ 1125899906842624 := by omega
  by_cases h : l.length = 16
  · have K := Lib.hid (show Calls Tryz.prog 70 #[.string (S2.B l)] w fun e w' => e = .returned (.tuple #[.string (S2.B ((S3.unhex l).getD [])), .bool (isId l)]) ∧ Below w.heap.size w w' from by rw [id_unhex h]; exact S3.unhex_any l w (by omega))
    obtain ⟨x, hx⟩ : ∃ x, x = (S3.unhex l).getD [] := ⟨_, rfl⟩
    obtain ⟨r, hr⟩ : ∃ r, r = isId l := ⟨_, rfl⟩
    rw [← hx, ← hr] at K
    rw [← hr]
    have hI : ((l.length : Int) == 16) = true := by simp; omega
    clear hx hr h hl
    go_enter Tryz.func29, Tryz.ntmps29
    go_wp2_with fail
    refine K.out.mono ?_
    rintro e w1 ⟨rfl, hb⟩
    clear K
    go_wp2
    go_ret
    exact ⟨rfl, hb⟩
  · have hI : ((l.length : Int) == 16) = false := by simp; omega
    rw [id_long h]
    clear h hl
    go_enter Tryz.func29, Tryz.ntmps29
    go_wp2
    go_ret
    exact ⟨rfl, Below.refl _ _⟩
set_option maxHeartbeats 400000 in
theorem letter_any (r : Nat) (w : World) :
    Calls Tryz.prog 71 #[.int .i32 (r : Int)] w fun e w' => e = .returned (.bool (decide (97 ≤ r) && decide (r ≤ 122))) ∧ w = w' := by
  by_cases h1 : 97 ≤ r
  · have h1I : (97 : Int) ≤ (r : Int) := by omega
    by_cases h2 : r ≤ 122
    · have h2I : (r : Int) ≤ 122 := by omega
      rw [decide_eq_true h1, decide_eq_true h2]
      clear h1 h2
      go_enter Tryz.func71, Tryz.ntmps71
      go_wp2
      go_ret
      exact ⟨rfl, rfl⟩
    · have h2I : ¬ (r : Int) ≤ 122 := by omega
      rw [decide_eq_true h1, decide_eq_false h2]
      clear h1 h2
      go_enter Tryz.func71, Tryz.ntmps71
      go_wp2
      go_ret
      exact ⟨rfl, rfl⟩
  · have h1I : ¬ (97 : Int) ≤ (r : Int) := by omega
    rw [decide_eq_false h1]
    clear h1
    go_enter Tryz.func71, Tryz.ntmps71
    go_wp2
    go_ret
    exact ⟨rfl, rfl⟩
set_option maxHeartbeats 400000 in
theorem digit_any (r : Nat) (w : World) :
    Calls Tryz.prog 72 #[.int .i32 (r : Int)] w fun e w' => e = .returned (.bool (decide (48 ≤ r) && decide (r ≤ 57))) ∧ w = w' := by
  by_cases h1 : 48 ≤ r
  · have h1I : (48 : Int) ≤ (r : Int) := by omega
    by_cases h2 : r ≤ 57
    · have h2I : (r : Int) ≤ 57 := by omega
      rw [decide_eq_true h1, decide_eq_true h2]
      clear h1 h2
      go_enter Tryz.func72, Tryz.ntmps72
      go_wp2
      go_ret
      exact ⟨rfl, rfl⟩
    · have h2I : ¬ (r : Int) ≤ 57 := by omega
      rw [decide_eq_true h1, decide_eq_false h2]
      clear h1 h2
      go_enter Tryz.func72, Tryz.ntmps72
      go_wp2
      go_ret
      exact ⟨rfl, rfl⟩
  · have h1I : ¬ (48 : Int) ≤ (r : Int) := by omega
    rw [decide_eq_false h1]
    clear h1
    go_enter Tryz.func72, Tryz.ntmps72
    go_wp2
    go_ret
    exact ⟨rfl, rfl⟩
theorem below_iter (w : World) (s : ByteArray) (k : Nat) : Below w.heap.size w (w.iter s k) := (Below.refl _ _).alloc (Nat.le_refl _) _
set_option maxHeartbeats 4000000 in
set_option maxRecDepth 100000 in
theorem name_any (l : Str) (w : World) (hl : l.length ≤ 1099511627776) :
    Calls Tryz.prog 31 #[.string (S2.B l)] w fun e w' => e = .returned (.bool (isName l)) ∧ Below w.heap.size w w' := by
  have hl3 : (l.length : Int) ≤ 1099511627776 := by omega
  by_cases hz : l = []
  · subst hz
    rw [show isName [] = false from by decide]
    clear hl hl3
    go_enter Tryz.func31, Tryz.ntmps31
    go_wp2
    go_ret
    exact ⟨rfl, Below.refl _ _⟩
  have hne : (l == []) = false := by
    cases l with
    | nil => exact absurd rfl hz
    | cons => rfl
  have hpos : 1 ≤ l.length := by
    cases l with
    | nil => exact absurd rfl hz
    | cons => simp
  by_cases h24 : 24 < l.length
  · have h24I : (24 : Int) < (l.length : Int) := by omega
    rw [show isName l = false from by unfold isName; rw [decide_eq_false (show ¬ l.length ≤ 24 by omega), Bool.and_false, Bool.and_false]]
    clear hl h24 hpos hz
    go_enter Tryz.func31, Tryz.ntmps31
    go_wp2
    go_ret
    exact ⟨rfl, Below.refl _ _⟩
  have h24I : ¬ (24 : Int) < (l.length : Int) := by omega
  have K1 := Lib.hid letter_any
  have K2 := Lib.hid digit_any
  have HE := Lib.hid (show shaped l = true → isName l = true from fun h => by unfold isName; rw [h, decide_eq_true hpos, decide_eq_true (show l.length ≤ 24 by omega)]; rfl)
  have HF := Lib.hid fun j => shaped_no (l := l) (j := j)
  obtain ⟨r, hr⟩ : ∃ r, r = isName l := ⟨_, rfl⟩
  rw [← hr] at HE HF ⊢
  clear hr hl h24 hpos hz
  go_enter Tryz.func31, Tryz.ntmps31
  go_wp2_with fail
  go_loopw [] (fun wr => ∃ j : Nat, wr = w.iter (S2.B l) j ∧ shaped (l.take j) = true) (fun wr => l.length - wr.iterPos w.heap.size)
  case atStart => exact ⟨0, rfl, rfl⟩
  case round =>
    obtain ⟨j, rfl, hall⟩ := hrel
    by_cases hc : j < l.length
    · have hn := shaped_next hc hall
      have ho := HF.out j
      have hp : j < (S2.B l).size := by rw [S2.B_size]; exact hc
      by_cases ha : (l[j]'hc).toNat < 128
      · obtain ⟨b, hb⟩ : ∃ b : Nat, b = (l[j]'hc).toNat := ⟨_, rfl⟩
        have hnx : ∀ ty, (Instr.next (.pointer (some ⟨w.heap.size, 0, none⟩)) true ty).run Tryz.prog (w.iter (S2.B l) j) = .ok (.tuple #[.bool true, .int .i64 (j : Int), .int .i32 (b : Int)]) (w.iter (S2.B l) (j + 1)) := fun ty => by rw [hb]; exact run_next_ascii w (S2.B l) j ty hp ha
        rw [later_nat, low_nat, ← hb] at hn
        have C1 := Lib.hid (fun w => K1.out b w)
        have C2 := Lib.hid (fun w => K2.out b w)
        clear hb hall K1 K2 HE HF ha hp
        cases h1 : (decide (97 ≤ b) && decide (b ≤ 122)) with
        | true =>
          rw [h1] at C1 hn
          have HN := Lib.hid (show shaped (l.take (j + 1)) = true from hn.trans (by simp))
          clear hn ho h1
          go_wp2_with fail
          refine (C1.out _).mono ?_
          rintro e w1 ⟨rfl, rfl⟩
          clear C1 C2
          go_wp2
          go_roundw
          case rel => exact ⟨j + 1, rfl, HN.out⟩
          case measure => simp; omega
        | false =>
          rw [h1] at C1 hn
          by_cases hz : j = 0
          · have E := Lib.hid (ho (hn.trans (if_pos hz)))
            have hzI : ((j : Int) == 0) = true := by simp; omega
            clear hn ho h1 hz
            go_wp2_with fail
            refine (C1.out _).mono ?_
            rintro e w1 ⟨rfl, rfl⟩
            clear C1 C2
            go_wp2
            go_ret
            rw [E.out]
            exact ⟨rfl, below_iter _ _ _⟩
          have hzI : ((j : Int) == 0) = false := by simp; omega
          rw [if_neg hz] at hn
          cases h2 : (decide (48 ≤ b) && decide (b ≤ 57)) with
          | true =>
            rw [h2] at C2 hn
            have HN := Lib.hid (show shaped (l.take (j + 1)) = true from hn.trans (by simp))
            clear hn ho h1 h2 hz
            go_wp2_with fail
            refine (C1.out _).mono ?_
            rintro e w1 ⟨rfl, rfl⟩
            go_wp2_with fail
            refine (C2.out _).mono ?_
            rintro e w1 ⟨rfl, rfl⟩
            clear C1 C2
            go_wp2
            go_roundw
            case rel => exact ⟨j + 1, rfl, HN.out⟩
            case measure => simp; omega
          | false =>
            rw [h2] at C2 hn
            by_cases h95 : b = 95
            · have h95I : ((b : Int) == 95) = true := by simp; omega
              have HN := Lib.hid (show shaped (l.take (j + 1)) = true from hn.trans (by simp [h95]))
              clear hn ho h1 h2 hz h95
              go_wp2_with fail
              refine (C1.out _).mono ?_
              rintro e w1 ⟨rfl, rfl⟩
              go_wp2_with fail
              refine (C2.out _).mono ?_
              rintro e w1 ⟨rfl, rfl⟩
              clear C1 C2
              go_wp2
              go_roundw
              case rel => exact ⟨j + 1, rfl, HN.out⟩
              case measure => simp; omega
            · have h95I : ((b : Int) == 95) = false := by simp; omega
              have E := Lib.hid (ho (show shaped (l.take (j + 1)) = false from hn.trans (by simp [h95])))
              clear hn ho h1 h2 hz h95
              go_wp2_with fail
              refine (C1.out _).mono ?_
              rintro e w1 ⟨rfl, rfl⟩
              go_wp2_with fail
              refine (C2.out _).mono ?_
              rintro e w1 ⟨rfl, rfl⟩
              clear C1 C2
              go_wp2
              go_ret
              rw [E.out]
              exact ⟨rfl, below_iter _ _ _⟩
      · have hdec := decode_high (S2.B l) j hp (by show 128 ≤ (l[j]'hc).toNat; omega)
        obtain ⟨q, d, hqd⟩ : ∃ q d, Utf8.decode (S2.B l) j = (q, d) := ⟨_, _, rfl⟩
        rw [hqd] at hdec
        have hnx : ∀ ty, (Instr.next (.pointer (some ⟨w.heap.size, 0, none⟩)) true ty).run Tryz.prog (w.iter (S2.B l) j) = .ok (.tuple #[.bool true, .int .i64 (j : Int), .int .i32 (q : Int)]) (w.iter (S2.B l) (j + d)) := fun ty => by have := run_next_any (P := Tryz.prog) w (S2.B l) j ty hp; rw [hqd] at this; exact this
        have C1 := K1.out q
        have C2 := K2.out q
        rw [decide_eq_false (show ¬ q ≤ 122 by omega), Bool.and_false] at C1
        rw [decide_eq_false (show ¬ q ≤ 57 by omega), Bool.and_false] at C2
        have C1' := Lib.hid C1
        have C2' := Lib.hid C2
        have h95I : ((q : Int) == 95) = false := by simp; omega
        have E := Lib.hid (ho (by
          rw [hn, later_nat, low_nat, decide_eq_false (show ¬ (l[j]'hc).toNat ≤ 122 by omega), decide_eq_false (show ¬ (l[j]'hc).toNat ≤ 57 by omega), decide_eq_false (show ¬ (l[j]'hc).toNat = 95 by omega)]
          simp))
        clear hn ho hall K1 K2 HE HF ha hp C1 C2 hqd hdec
        by_cases hz : j = 0
        · have hzI : ((j : Int) == 0) = true := by simp; omega
          clear hz
          go_wp2_with fail
          refine (C1'.out _).mono ?_
          rintro e w1 ⟨rfl, rfl⟩
          clear C1' C2'
          go_wp2
          go_ret
          rw [E.out]
          exact ⟨rfl, below_iter _ _ _⟩
        · have hzI : ((j : Int) == 0) = false := by simp; omega
          clear hz
          go_wp2_with fail
          refine (C1'.out _).mono ?_
          rintro e w1 ⟨rfl, rfl⟩
          go_wp2_with fail
          refine (C2'.out _).mono ?_
          rintro e w1 ⟨rfl, rfl⟩
          clear C1' C2'
          go_wp2
          go_ret
          rw [E.out]
          exact ⟨rfl, below_iter _ _ _⟩
    · have hp : ¬ j < (S2.B l).size := by rw [S2.B_size]; exact hc
      have hnx : ∀ ty, (Instr.next (.pointer (some ⟨w.heap.size, 0, none⟩)) true ty).run Tryz.prog (w.iter (S2.B l) j) = _ := fun ty => run_next_end w (S2.B l) j ty hp
      have E := Lib.hid (HE.out (by rwa [List.take_of_length_le (by omega)] at hall))
      clear hall HE HF K1 K2 hp hc
      go_wp2
      go_ret
      rw [E.out]
      exact ⟨rfl, below_iter _ _ _⟩
end Idt
end Go.Proofs.YtojbicpchjiplaaGreatDoor.S11

/-
  Layer 11: the package's Ids.
-/
namespace Go.Proofs.YtojbicpchjiplaaGreatDoor.S11
open Go.RowKit
namespace Idt
attribute [local go_sem] S2.B_size S2.B_drop' S2.B_take S2.B_list S2.B_app
open Go.Op (bytesLess)
set_option maxHeartbeats 2000000 in
set_option maxRecDepth 100000 in
theorem ids_any (A : Option Addr) (l : List Str) (n c : Nat) (w : World) (hn : n = l.length) (hr : S2.Row w w.heap.size A (S2.Ss l)) (hn2 : n ≤ 1125899906842624) (hs : ∀ s ∈ l, s.length ≤ 1125899906842624) :
    Calls Tryz.prog 30 #[.slice A n c] w fun e w' => e = .returned (.bool (ids l)) ∧ Below w.heap.size w w' := by
  have hn3 : (n : Int) ≤ 1125899906842624 := by omega
  by_cases h64 : 64 < n
  · have h64I : (64 : Int) < (n : Int) := by omega
    rw [show ids l = false from by unfold ids; rw [decide_eq_false (show ¬ l.length ≤ 64 by omega), Bool.and_false, Bool.and_false]]
    clear hn hr hn2 hs h64
    go_enter Tryz.func30, Tryz.ntmps30
    go_wp2
    go_ret
    exact ⟨rfl, Below.refl _ _⟩
  have h64I : ¬ (64 : Int) < (n : Int) := by omega
  have HN := Lib.hid hn
  have HS := Lib.hid hs
  have HR := Lib.hid hr
  have HE := Lib.hid (show Sofar l l.length → ids l = true from fun h => by rw [ids_end (fun i hi => h.one i hi hi) (fun i hi => h.two i hi hi), decide_eq_true (show l.length ≤ 64 by omega)])
  have B1 := Lib.hid fun j (hj : j < l.length) => ids_bad1 (l := l) hj
  have B2 := Lib.hid fun j (hj : j + 1 < l.length) => ids_bad2 (l := l) hj
  obtain ⟨r, hr0⟩ : ∃ r, r = ids l := ⟨_, rfl⟩
  rw [← hr0] at HE B1 B2 ⊢
  clear hr0 hn hs hn2 hr h64
  go_enter Tryz.func30, Tryz.ntmps30
  go_wp2_with fail
  go_loopw [10] (fun i wr => ∃ j : Nat, i = .int .i64 (j : Int) ∧ Sofar l j ∧ Below w.heap.size w wr) (fun i _ => n - (intOf i).toNat)
  case atStart => exact ⟨0, rfl, ⟨Nat.zero_le _, fun _ _ h => absurd h (by omega), fun _ _ h => absurd h (by omega)⟩, Below.refl _ _⟩
  case round =>
    obtain ⟨j, rfl, hso, hbw⟩ := hrel
    have SO := Lib.hid hso
    have HB := Lib.hid hbw
    clear hso hbw
    by_cases hc : j < n
    · have hcI : (j : Int) < n := by omega
      have hjl : j < l.length := by have := HN.out; omega
      obtain ⟨a, rfl, _, hcell⟩ := (HR.out.below HB.out).str hjl
      have hb1 := B1.out j hjl
      have hnx := SO.out.next hjl
      have KR := Lib.hid fun w => right_any l[j] w (HS.out _ (List.getElem_mem hjl))
      cases hi : isId l[j] with
      | false =>
        rw [hi] at KR
        have NB := Lib.hid (hb1 hi)
        obtain ⟨x, hx⟩ : ∃ x, x = l[j] := ⟨_, rfl⟩
        rw [← hx] at hcell KR
        clear hb1 hnx hi hx
        go_wp2_with fail
        refine (KR.out _).mono ?_
        rintro e w2 ⟨rfl, hb⟩
        replace HB := Lib.hid (HB.out.trans (hb.mono HB.out.size))
        clear hb KR hcell
        go_wp2
        go_ret
        rw [NB.out]
        exact ⟨rfl, HB.out⟩
      | true =>
        rw [hi] at KR
        by_cases hz : j = 0
        · have hzI : ¬ 0 < j := by omega
          have NX := Lib.hid (hnx hi fun k e => by omega)
          obtain ⟨x, hx⟩ : ∃ x, x = l[j] := ⟨_, rfl⟩
          rw [← hx] at hcell KR
          clear hb1 hnx hi hx hz
          go_wp2_with fail
          refine (KR.out _).mono ?_
          rintro e w2 ⟨rfl, hb⟩
          replace HB := Lib.hid (HB.out.trans (hb.mono HB.out.size))
          clear hb KR hcell
          go_wp2
          go_roundw
          case rel => exact ⟨j + 1, by go_num, NX.out, HB.out⟩
          case measure => simp [intOf]; omega
        obtain ⟨k, hk⟩ : ∃ k, j = k + 1 := ⟨j - 1, by omega⟩
        have hzI : 0 < j := by omega
        have hk1 : (j : Int) - 1 = (k : Int) := by omega
        have hk2 : (k : Int) < (n : Int) := by omega
        have hkl : k < l.length := by omega
        cases hle : bytesLess l[k] l[j] with
        | false =>
          have NB := Lib.hid (B2.out k (by omega) (by subst hk; exact hle))
          have HCk := Lib.hid fun (wz : World) (hb : Below w.heap.size w wz) => (show ∃ a', some a = some a' ∧ wz.cell? (a'.add k) = some (.string (S2.B l[k])) from by
            obtain ⟨a', h1, _, h3⟩ := (HR.out.below hb).str hkl
            exact ⟨a', h1, h3⟩)
          obtain ⟨x, hx⟩ : ∃ x, x = l[j] := ⟨_, rfl⟩
          obtain ⟨y, hy⟩ : ∃ y, y = l[k] := ⟨_, rfl⟩
          rw [← hx] at hcell KR hle
          rw [← hy] at hle HCk
          clear hb1 hnx hi hx hy hz hk
          go_wp2_with fail
          refine (KR.out _).mono ?_
          rintro e w2 ⟨rfl, hb⟩
          replace HB := Lib.hid (HB.out.trans (hb.mono HB.out.size))
          clear hb KR hcell
          obtain ⟨a', ha', hcell'⟩ := HCk.out _ HB.out
          cases ha'
          clear HCk
          go_wp2
          go_ret
          rw [NB.out]
          exact ⟨rfl, HB.out⟩
        | true =>
          have hle2 : ∀ (k' : Nat) (h : j = k' + 1), bytesLess (l[k']'(by omega)) l[j] = true := fun k' e => by
            have : k' = k := by omega
            subst this
            exact hle
          have NX := Lib.hid (hnx hi hle2)
          have HCk := Lib.hid fun (wz : World) (hb : Below w.heap.size w wz) => (show ∃ a', some a = some a' ∧ wz.cell? (a'.add k) = some (.string (S2.B l[k])) from by
            obtain ⟨a', h1, _, h3⟩ := (HR.out.below hb).str hkl
            exact ⟨a', h1, h3⟩)
          obtain ⟨x, hx⟩ : ∃ x, x = l[j] := ⟨_, rfl⟩
          obtain ⟨y, hy⟩ : ∃ y, y = l[k] := ⟨_, rfl⟩
          rw [← hx] at hcell KR hle
          rw [← hy] at hle HCk
          clear hb1 hnx hi hx hy hz hk hle2
          go_wp2_with fail
          refine (KR.out _).mono ?_
          rintro e w2 ⟨rfl, hb⟩
          replace HB := Lib.hid (HB.out.trans (hb.mono HB.out.size))
          clear hb KR hcell
          obtain ⟨a', ha', hcell'⟩ := HCk.out _ HB.out
          cases ha'
          clear HCk
          go_wp2
          go_roundw
          case rel => exact ⟨j + 1, by go_num, NX.out, HB.out⟩
          case measure => simp [intOf]; omega
    · have hcI : ¬ (j : Int) < n := by omega
      have hjl : j = l.length := by have := HN.out; have := SO.out.le; omega
      have E := Lib.hid (HE.out (by rw [← hjl]; exact SO.out))
      clear SO B1 B2 HE HR HS hjl hc
      go_wp2
      go_ret
      rw [E.out]
      exact ⟨rfl, HB.out⟩
end Idt
end Go.Proofs.YtojbicpchjiplaaGreatDoor.S11
