/-
  Layer 11: IdentLists' walk, against the package's contracts.
-/
import Derived.Test.YtcbhjagcfbinoaaDoorIdentPk
import Derived.Test.YtcbhjagcfbinoaaDoorIdentRefI
namespace Go.Proofs.YtcbhjagcfbinoaaDoor
open Go.RowKit
namespace Idt
attribute [local go_sem] S2.B_size S2.B_drop' S2.B_take S2.B_list S2.B_app
set_option maxHeartbeats 2000000 in
set_option maxRecDepth 100000 in
theorem lists_walk {idf : Int → Str} {W : World} (P : Pk idf W) (l : List Str) (A : Option Addr) (n c : Nat) (hn : n = l.length) (hn2 : n ≤ 140737488355328) (hls : ∀ s ∈ l, s.length ≤ 281474976710656) (hr : S2.Row W W.heap.size A (S2.Ss l)) :
    Calls Tryd.prog 4 #[.slice A n c] W fun e w' => e = .returned (.bool true) ∧ Below W.heap.size W w' := by
  have KS := Lib.hid (small_any P W (Below.refl _ _))
  have hn3 : (n : Int) ≤ 140737488355328 := by omega
  have HN := Lib.hid hn
  have HL := Lib.hid hls
  have HR := Lib.hid hr
  have PP := Lib.hid P
  clear hn hls hr P
  by_cases h1 : 100 < n
  · have h1I : (100 : Int) < (n : Int) := by omega
    clear h1 hn2
    go_enter Tryd.func4, Tryd.ntmps4
    go_wp2_with fail
    refine KS.out.mono ?_
    rintro e w1 ⟨rfl, hb⟩
    clear KS
    go_wp2
    go_ret
    exact ⟨rfl, hb⟩
  have h1I : ¬ (100 : Int) < (n : Int) := by omega
  have h100 : n ≤ 100 := by omega
  clear h1 hn2
  go_enter Tryd.func4, Tryd.ntmps4
  go_wp2_with fail
  refine KS.out.mono ?_
  rintro e w1 ⟨rfl, hb⟩
  clear KS
  have HB := Lib.hid hb
  clear hb
  go_wp2_with fail
  go_loopw [4] (fun i wr => ∃ j : Nat, i = .int .i64 (j : Int) ∧ j ≤ n ∧ (∀ k (h : k < l.length), k < j → l[k].length ≤ 100) ∧ wr = w1) (fun i _ => n - (intOf i).toNat)
  case atStart => exact ⟨0, rfl, by omega, fun k h hk => absurd hk (by omega), rfl⟩
  case round =>
    obtain ⟨j, rfl, hj, hso, rfl⟩ := hrel
    have SO := Lib.hid hso
    clear hso
    by_cases hc : j < n
    · have hcI : (j : Int) < n := by omega
      have hjl : j < l.length := by have := HN.out; omega
      have hrow := HR.out.below HB.out
      obtain ⟨a, rfl, _, hcell⟩ := hrow.str hjl
      have hlx := HL.out _ (List.getElem_mem hjl)
      by_cases hx : 100 < l[j].length
      · obtain ⟨x, hxx⟩ : ∃ x, x = l[j] := ⟨_, rfl⟩
        rw [← hxx] at hcell hlx hx
        have hxI : (100 : Int) < (x.length : Int) := by omega
        clear hxx hrow hx hlx h100
        go_wp2
        go_ret
        exact ⟨rfl, HB.out⟩
      · have NX := Lib.hid (show ∀ k (h : k < l.length), k < j + 1 → l[k].length ≤ 100 from fun k h hk => by
          by_cases e : k = j
          · subst e; omega
          · exact SO.out k h (by omega))
        obtain ⟨x, hxx⟩ : ∃ x, x = l[j] := ⟨_, rfl⟩
        rw [← hxx] at hcell hlx hx
        have hxI : ¬ (100 : Int) < (x.length : Int) := by omega
        clear hxx hrow hx hlx SO
        go_wp2
        go_roundw
        case rel => exact ⟨j + 1, by go_num, by omega, NX.out, by first | rfl | trivial⟩
        case measure => simp [intOf]; omega
    · have hcI : ¬ (j : Int) < n := by omega
      have hle : ∀ s ∈ l, s.length ≤ 100 := fun s hs => by
        obtain ⟨k, hk, rfl⟩ := List.mem_iff_getElem.1 hs
        exact SO.out k hk (by have := HN.out; omega)
      have K1 := Lib.hid (PP.out.ids A l n c _ HB.out HN.out (by
        have := HR.out.below HB.out
        rcases this with h | ⟨a, h1, h2, h3⟩
        · exact .inl h
        · exact .inr ⟨a, h1, Nat.lt_of_lt_of_le h2 HB.out.size, h3⟩) (by omega) (fun s hs => by have := hle s hs; omega))
      have K2 := Lib.hid fun w (hb : Below W.heap.size W w) => refIds_any A l n c W.heap.size w HN.out (HR.out.below hb) (by omega) (fun s hs => by have := hle s hs; omega)
      obtain ⟨r, hrr⟩ : ∃ r, r = ids l := ⟨_, rfl⟩
      rw [← hrr] at K1 K2
      clear hle SO hrr hj hc h100
      go_wp2_with fail
      refine K1.out.mono ?_
      rintro e w2 ⟨rfl, hb⟩
      go_wp2_with fail
      refine (K2.out _ hb).mono ?_
      rintro e w3 ⟨rfl, m, rfl⟩
      have BB := Lib.hid (hb.trans (drewN_below' w2 m))
      clear hb K1 K2
      go_wp2
      go_ret
      exact ⟨by simp, BB.out⟩
end Idt
end Go.Proofs.YtcbhjagcfbinoaaDoor
