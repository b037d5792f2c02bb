/-
  Layer 11: IdentBack's walk, against the package's contracts.
-/
import Derived.Test.YtcbhjagcfbinoaaDoorIdentLNames
namespace Go.Proofs.YtcbhjagcfbinoaaDoor
open Go.RowKit
namespace Idt
attribute [local go_sem] S2.B_size S2.B_drop' S2.B_take S2.B_list S2.B_app
set_option maxHeartbeats 4000000 in
set_option maxRecDepth 100000 in
theorem back_walk {idf : Int → Str} {W : World} (P : Pk idf W) (a : Str) (m : Int) (s : Str) (ha : a.length ≤ 281474976710656) (hm : -9223372036854775808 ≤ m ∧ m ≤ 9223372036854775807) (hs : s.length ≤ 281474976710656) :
    Calls Tryd.prog 5 #[.string (S2.B a), .int .i64 m, .string (S2.B s)] W fun e w' => e = .returned (.bool true) ∧ Below W.heap.size W w' := by
  have KS := Lib.hid (small_any P W (Below.refl _ _))
  have ha3 : (a.length : Int) ≤ 281474976710656 := by omega
  have hs3 : (s.length : Int) ≤ 281474976710656 := by omega
  by_cases h1 : 1000 < a.length
  · have h1I : (1000 : Int) < (a.length : Int) := by omega
    clear h1 ha hs
    go_enter Tryd.func5, Tryd.ntmps5
    go_wp2_with fail
    refine KS.out.mono ?_
    rintro e w1 ⟨rfl, hb⟩
    clear KS
    go_wp2
    go_ret
    exact ⟨rfl, hb⟩
  have h1I : ¬ (1000 : Int) < (a.length : Int) := by omega
  by_cases h2 : 1000 < s.length
  · have h2I : (1000 : Int) < (s.length : Int) := by omega
    clear h1 h2 ha hs
    go_enter Tryd.func5, Tryd.ntmps5
    go_wp2_with fail
    refine KS.out.mono ?_
    rintro e w1 ⟨rfl, hb⟩
    clear KS
    go_wp2
    go_ret
    exact ⟨rfl, hb⟩
  have h2I : ¬ (1000 : Int) < (s.length : Int) := by omega
  have KN := Lib.hid (P.name a (by omega))
  have KH := P.handle a m (by omega) hm
  have hl := handle_len a m
  have hq : (∃ b k, Hd s b k) ∨ ∀ b k, ¬ Hd s b k := by
    by_cases h : ∃ b k, Hd s b k
    · exact .inl h
    · exact .inr fun b k hd => h ⟨b, k, hd⟩
  cases hna : isName a with
  | true =>
    rw [hna] at KN
    by_cases hlo : 0 ≤ m
    · by_cases hhi : m ≤ 19
      · have hv := handle_hd hna hlo hhi
        have KP := Lib.hid (P.parse_yes (s := handle a m) (by omega) hv)
        obtain ⟨h, hh⟩ : ∃ h, h = handle a m := ⟨_, rfl⟩
        rw [← hh] at KH KP
        replace KH := Lib.hid KH
        have hlt : m < 20 := by omega
        rcases hq with ⟨b, k, hd⟩ | hno
        · have Q1 := Lib.hid (P.parse_yes (s := s) (by omega) hd)
          have hbl := (name_pos hd.name).2
          have Q2 := P.handle b k (by omega) (by have := hd.lo; have := hd.hi; omega)
          rw [hd.handle] at Q2
          have Q3 := P.name b (by omega)
          rw [hd.name] at Q3
          have Q2' := Lib.hid Q2
          have Q3' := Lib.hid Q3
          clear Q2 Q3 hd hbl h1 h2 ha hs hl hv hh hna
          go_enter Tryd.func5, Tryd.ntmps5
          go_wp2_with fail
          refine KS.out.mono ?_
          rintro e w1 ⟨rfl, hb⟩
          clear KS
          go_wp2_with fail
          refine (KH.out _ hb).mono ?_
          rintro e w2 ⟨rfl, hb⟩
          clear KH
          go_wp2_with fail
          refine (KP.out _ hb).mono ?_
          rintro e w2 ⟨rfl, hb⟩
          clear KP
          go_wp2_with fail
          refine (KN.out _ hb).mono ?_
          rintro e w2 ⟨rfl, hb⟩
          clear KN
          go_wp2_with fail
          refine (Q1.out _ hb).mono ?_
          rintro e w2 ⟨rfl, hb⟩
          clear Q1
          go_wp2_with fail
          refine (Q2'.out _ hb).mono ?_
          rintro e w2 ⟨rfl, hb⟩
          clear Q2'
          go_wp2_with fail
          refine (Q3'.out _ hb).mono ?_
          rintro e w2 ⟨rfl, hb⟩
          clear Q3'
          go_wp2
          go_ret
          exact ⟨rfl, hb⟩
        · have Q1 := Lib.hid (show Ok W 10 #[.string (S2.B s)] (.tuple #[.string ⟨#[]⟩, .int .i64 0, .bool false]) from P.parse_no (s := s) (by omega) hno)
          clear hno h1 h2 ha hs hl hv hh hna
          go_enter Tryd.func5, Tryd.ntmps5
          go_wp2_with fail
          refine KS.out.mono ?_
          rintro e w1 ⟨rfl, hb⟩
          clear KS
          go_wp2_with fail
          refine (KH.out _ hb).mono ?_
          rintro e w2 ⟨rfl, hb⟩
          clear KH
          go_wp2_with fail
          refine (KP.out _ hb).mono ?_
          rintro e w2 ⟨rfl, hb⟩
          clear KP
          go_wp2_with fail
          refine (KN.out _ hb).mono ?_
          rintro e w2 ⟨rfl, hb⟩
          clear KN
          go_wp2_with fail
          refine (Q1.out _ hb).mono ?_
          rintro e w2 ⟨rfl, hb⟩
          clear Q1
          go_wp2
          go_ret
          exact ⟨rfl, hb⟩
      · have hlt : ¬ m < 20 := by omega
        have hnil : handle a m = [] := if_neg (fun hc => hhi hc.2.2)
        rw [hnil] at KH
        have KH2 := KH
        clear KH
        have KH := Lib.hid (show Ok W 18 #[.string (S2.B a), .int .i64 m] (.string ⟨#[]⟩) from KH2)
        have KP := Lib.hid (show Ok W 10 #[.string ⟨#[]⟩] (.tuple #[.string ⟨#[]⟩, .int .i64 0, .bool false]) from P.parse_no (s := []) (by decide) fun b k h => no_hd_nil h)
        rcases hq with ⟨b, k, hd⟩ | hno
        · have Q1 := Lib.hid (P.parse_yes (s := s) (by omega) hd)
          have hbl := (name_pos hd.name).2
          have Q2 := P.handle b k (by omega) (by have := hd.lo; have := hd.hi; omega)
          rw [hd.handle] at Q2
          have Q3 := P.name b (by omega)
          rw [hd.name] at Q3
          have Q2' := Lib.hid Q2
          have Q3' := Lib.hid Q3
          clear Q2 Q3 hd hbl h1 h2 ha hs hl hnil KH2 hna hhi
          go_enter Tryd.func5, Tryd.ntmps5
          go_wp2_with fail
          refine KS.out.mono ?_
          rintro e w1 ⟨rfl, hb⟩
          clear KS
          go_wp2_with fail
          refine (KH.out _ hb).mono ?_
          rintro e w2 ⟨rfl, hb⟩
          clear KH
          go_wp2_with fail
          refine (KP.out _ hb).mono ?_
          rintro e w2 ⟨rfl, hb⟩
          clear KP
          go_wp2_with fail
          refine (KN.out _ hb).mono ?_
          rintro e w2 ⟨rfl, hb⟩
          clear KN
          go_wp2_with fail
          refine (Q1.out _ hb).mono ?_
          rintro e w2 ⟨rfl, hb⟩
          clear Q1
          go_wp2_with fail
          refine (Q2'.out _ hb).mono ?_
          rintro e w2 ⟨rfl, hb⟩
          clear Q2'
          go_wp2_with fail
          refine (Q3'.out _ hb).mono ?_
          rintro e w2 ⟨rfl, hb⟩
          clear Q3'
          go_wp2
          go_ret
          exact ⟨rfl, hb⟩
        · have Q1 := Lib.hid (show Ok W 10 #[.string (S2.B s)] (.tuple #[.string ⟨#[]⟩, .int .i64 0, .bool false]) from P.parse_no (s := s) (by omega) hno)
          clear hno h1 h2 ha hs hl hnil KH2 hna hhi
          go_enter Tryd.func5, Tryd.ntmps5
          go_wp2_with fail
          refine KS.out.mono ?_
          rintro e w1 ⟨rfl, hb⟩
          clear KS
          go_wp2_with fail
          refine (KH.out _ hb).mono ?_
          rintro e w2 ⟨rfl, hb⟩
          clear KH
          go_wp2_with fail
          refine (KP.out _ hb).mono ?_
          rintro e w2 ⟨rfl, hb⟩
          clear KP
          go_wp2_with fail
          refine (KN.out _ hb).mono ?_
          rintro e w2 ⟨rfl, hb⟩
          clear KN
          go_wp2_with fail
          refine (Q1.out _ hb).mono ?_
          rintro e w2 ⟨rfl, hb⟩
          clear Q1
          go_wp2
          go_ret
          exact ⟨rfl, hb⟩
    · skip
      have hnil : handle a m = [] := if_neg (fun hc => hlo hc.2.1)
      rw [hnil] at KH
      have KH2 := KH
      clear KH
      have KH := Lib.hid (show Ok W 18 #[.string (S2.B a), .int .i64 m] (.string ⟨#[]⟩) from KH2)
      have KP := Lib.hid (show Ok W 10 #[.string ⟨#[]⟩] (.tuple #[.string ⟨#[]⟩, .int .i64 0, .bool false]) from P.parse_no (s := []) (by decide) fun b k h => no_hd_nil h)
      rcases hq with ⟨b, k, hd⟩ | hno
      · have Q1 := Lib.hid (P.parse_yes (s := s) (by omega) hd)
        have hbl := (name_pos hd.name).2
        have Q2 := P.handle b k (by omega) (by have := hd.lo; have := hd.hi; omega)
        rw [hd.handle] at Q2
        have Q3 := P.name b (by omega)
        rw [hd.name] at Q3
        have Q2' := Lib.hid Q2
        have Q3' := Lib.hid Q3
        clear Q2 Q3 hd hbl h1 h2 ha hs hl hnil KH2 hna
        go_enter Tryd.func5, Tryd.ntmps5
        go_wp2_with fail
        refine KS.out.mono ?_
        rintro e w1 ⟨rfl, hb⟩
        clear KS
        go_wp2_with fail
        refine (KH.out _ hb).mono ?_
        rintro e w2 ⟨rfl, hb⟩
        clear KH
        go_wp2_with fail
        refine (KP.out _ hb).mono ?_
        rintro e w2 ⟨rfl, hb⟩
        clear KP
        go_wp2_with fail
        refine (KN.out _ hb).mono ?_
        rintro e w2 ⟨rfl, hb⟩
        clear KN
        go_wp2_with fail
        refine (Q1.out _ hb).mono ?_
        rintro e w2 ⟨rfl, hb⟩
        clear Q1
        go_wp2_with fail
        refine (Q2'.out _ hb).mono ?_
        rintro e w2 ⟨rfl, hb⟩
        clear Q2'
        go_wp2_with fail
        refine (Q3'.out _ hb).mono ?_
        rintro e w2 ⟨rfl, hb⟩
        clear Q3'
        go_wp2
        go_ret
        exact ⟨rfl, hb⟩
      · have Q1 := Lib.hid (show Ok W 10 #[.string (S2.B s)] (.tuple #[.string ⟨#[]⟩, .int .i64 0, .bool false]) from P.parse_no (s := s) (by omega) hno)
        clear hno h1 h2 ha hs hl hnil KH2 hna
        go_enter Tryd.func5, Tryd.ntmps5
        go_wp2_with fail
        refine KS.out.mono ?_
        rintro e w1 ⟨rfl, hb⟩
        clear KS
        go_wp2_with fail
        refine (KH.out _ hb).mono ?_
        rintro e w2 ⟨rfl, hb⟩
        clear KH
        go_wp2_with fail
        refine (KP.out _ hb).mono ?_
        rintro e w2 ⟨rfl, hb⟩
        clear KP
        go_wp2_with fail
        refine (KN.out _ hb).mono ?_
        rintro e w2 ⟨rfl, hb⟩
        clear KN
        go_wp2_with fail
        refine (Q1.out _ hb).mono ?_
        rintro e w2 ⟨rfl, hb⟩
        clear Q1
        go_wp2
        go_ret
        exact ⟨rfl, hb⟩
  | false =>
    rw [hna] at KN
    have hnil : handle a m = [] := if_neg (fun hc => by rw [hna] at hc; cases hc.1)
    rw [hnil] at KH
    have KH2 := KH
    clear KH
    have KH := Lib.hid (show Ok W 18 #[.string (S2.B a), .int .i64 m] (.string ⟨#[]⟩) from KH2)
    have KP := Lib.hid (show Ok W 10 #[.string ⟨#[]⟩] (.tuple #[.string ⟨#[]⟩, .int .i64 0, .bool false]) from P.parse_no (s := []) (by decide) fun b k h => no_hd_nil h)
    rcases hq with ⟨b, k, hd⟩ | hno
    · have Q1 := Lib.hid (P.parse_yes (s := s) (by omega) hd)
      have hbl := (name_pos hd.name).2
      have Q2 := P.handle b k (by omega) (by have := hd.lo; have := hd.hi; omega)
      rw [hd.handle] at Q2
      have Q3 := P.name b (by omega)
      rw [hd.name] at Q3
      have Q2' := Lib.hid Q2
      have Q3' := Lib.hid Q3
      clear Q2 Q3 hd hbl h1 h2 ha hs hl hnil KH2 hna
      go_enter Tryd.func5, Tryd.ntmps5
      go_wp2_with fail
      refine KS.out.mono ?_
      rintro e w1 ⟨rfl, hb⟩
      clear KS
      go_wp2_with fail
      refine (KH.out _ hb).mono ?_
      rintro e w2 ⟨rfl, hb⟩
      clear KH
      go_wp2_with fail
      refine (KP.out _ hb).mono ?_
      rintro e w2 ⟨rfl, hb⟩
      clear KP
      go_wp2_with fail
      refine (KN.out _ hb).mono ?_
      rintro e w2 ⟨rfl, hb⟩
      clear KN
      go_wp2_with fail
      refine (Q1.out _ hb).mono ?_
      rintro e w2 ⟨rfl, hb⟩
      clear Q1
      go_wp2_with fail
      refine (Q2'.out _ hb).mono ?_
      rintro e w2 ⟨rfl, hb⟩
      clear Q2'
      go_wp2_with fail
      refine (Q3'.out _ hb).mono ?_
      rintro e w2 ⟨rfl, hb⟩
      clear Q3'
      go_wp2
      go_ret
      exact ⟨rfl, hb⟩
    · have Q1 := Lib.hid (show Ok W 10 #[.string (S2.B s)] (.tuple #[.string ⟨#[]⟩, .int .i64 0, .bool false]) from P.parse_no (s := s) (by omega) hno)
      clear hno h1 h2 ha hs hl hnil KH2 hna
      go_enter Tryd.func5, Tryd.ntmps5
      go_wp2_with fail
      refine KS.out.mono ?_
      rintro e w1 ⟨rfl, hb⟩
      clear KS
      go_wp2_with fail
      refine (KH.out _ hb).mono ?_
      rintro e w2 ⟨rfl, hb⟩
      clear KH
      go_wp2_with fail
      refine (KP.out _ hb).mono ?_
      rintro e w2 ⟨rfl, hb⟩
      clear KP
      go_wp2_with fail
      refine (KN.out _ hb).mono ?_
      rintro e w2 ⟨rfl, hb⟩
      clear KN
      go_wp2_with fail
      refine (Q1.out _ hb).mono ?_
      rintro e w2 ⟨rfl, hb⟩
      clear Q1
      go_wp2
      go_ret
      exact ⟨rfl, hb⟩
end Idt
end Go.Proofs.YtcbhjagcfbinoaaDoor
