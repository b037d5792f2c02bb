/-
  Layer 8: MerkleProves.
-/
import Derived.Test.YtfemgakfckabhaaDoorMerkleSmall
import Derived.Test.YtfemgakfckabhaaDoorMerkleLeav
namespace Go.Proofs.YtfemgakfckabhaaDoor
open Go.RowKit
namespace Mk
attribute [local go_sem] S3.B_size S3.B_app S3.B_list
theorem leaves_yes {A : Option Addr} {l : List Str} {c n : Nat} {w : World} (hW : S3.Laid w) (hn : n = l.length) (hr : Rs w A l) (hlen : l.length ≤ 140737488355328) (hsz : ∀ s ∈ l, s.length ≤ 140737488355328) (h : Short 40 l) :
    Calls Tryd.prog 20 #[.slice A n c] w (GivesB w (l.map leaf)) :=
  (leaves_any A l c n w hW hn hr hlen hsz).mono fun e w' hp => by
    rcases hp with ⟨_, A1, c1, n1, he, hn1, hc1, ho, hb⟩ | ⟨h1, _⟩
    · exact ⟨A1, c1, n1, he, by rw [hn1, List.length_map], hc1, ho, hb⟩
    · exact absurd h h1
theorem leaves_no {A : Option Addr} {l : List Str} {c n : Nat} {w : World} (hW : S3.Laid w) (hn : n = l.length) (hr : Rs w A l) (hlen : l.length ≤ 140737488355328) (hsz : ∀ s ∈ l, s.length ≤ 140737488355328) (h : ¬ Short 40 l) :
    Calls Tryd.prog 20 #[.slice A n c] w fun e w' => e = .returned (.tuple #[.slice none 0 0, .bool false]) ∧ Below w.heap.size w w' :=
  (leaves_any A l c n w hW hn hr hlen hsz).mono fun e w' hp => by
    rcases hp with ⟨h1, _⟩ | ⟨_, he, hb⟩
    · exact absurd h1 h
    · exact ⟨he, hb⟩
theorem Rs.at2 {w : World} {a : Addr} {l : List Str} {k : Nat} {x : Str} (h : Rs w (some a) l) (hk : l[k]? = some x) : w.cell? (a.add k) = some (.string (S3.B x)) := by
  obtain ⟨h1, rfl⟩ := List.getElem?_eq_some_iff.1 hk
  exact h.at_ h1
/-- A list's premises in a law. -/
structure Ls (W : World) (A : Option Addr) (l : List Str) (c : Nat) : Prop where
  rs : Rs W A l
  cap : l.length ≤ c
  len : l.length ≤ 140737488355328
  str : ∀ s ∈ l, s.length ≤ 140737488355328
theorem dig_leaves (l : List Str) : ∀ s ∈ l.map leaf, s.length = 32 := by
  intro s hs
  obtain ⟨x, _, rfl⟩ := List.mem_map.1 hs
  exact leaf_len x
theorem root_dig {l : List Str} (h : ∀ s ∈ l, s.length = 32) : (root l).length = 32 := by
  by_cases h0 : l = []
  · subst h0; rw [root_nil]; exact H_len _
  · exact root_len h0 h
theorem inc_yes {l : List Str} {i : Nat} (h : ∀ s ∈ l, s.length = 32) (hi : i < l.length) : IncP l[i] (i : Int) (l.length : Int) (root l) (path l i) := by
  refine ⟨by omega, by omega, h _ (List.getElem_mem hi), fun s hs => ?_, ?_⟩
  · rw [path, List.mem_reverse] at hs
    exact pathR_lens _ _ _ (Nat.le_refl _) h hi s hs
  · rw [path, List.reverse_reverse, Int.toNat_natCast, Int.toNat_natCast]
    obtain ⟨ins, e⟩ := climbs _ l i l[i] (Nat.le_refl _) (List.getElem?_eq_getElem hi)
    exact climbP_of _ _ _ _ e
theorem inc_low {x r : Str} {n : Int} {p : List Str} : ¬ IncP x (-1) n r p := fun h => by have := h.1; omega
theorem inc_high {x r : Str} {n : Int} {p : List Str} : ¬ IncP x n n r p := fun h => by have := h.2.1; omega
theorem ext_yes {l : List Str} {m : Nat} (h : ∀ s ∈ l, s.length = 32) (hm : m ≤ l.length) : ExtP (m : Int) (l.length : Int) (root (l.take m)) (root l) (link l m) := by
  have ht : ∀ s ∈ l.take m, s.length = 32 := fun s hs => h s (List.mem_of_mem_take hs)
  by_cases h0 : m = 0
  · subst h0
    refine ⟨by omega, by omega, root_dig ht, root_dig h, ?_, ?_⟩
    · rw [link, if_pos rfl]; intro s hs; simp at hs
    · rw [if_pos (.inl ⟨rfl, by rw [List.take_zero, root_nil]⟩), link, if_pos rfl]
  · have hd : Digs (link l m) := by
      rw [link, if_neg h0]
      intro s hs
      rw [List.mem_reverse] at hs
      exact linkR_lens _ _ _ _ (Nat.le_refl _) h (by omega) hm s hs
    refine ⟨by omega, by omega, root_dig ht, root_dig h, hd, ?_⟩
    by_cases hn : m = l.length
    · rw [if_pos (.inr ⟨by omega, by rw [hn, List.take_length]⟩), link, if_neg h0]
      subst hn
      rw [linkR_all]; rfl
    · rw [if_neg (by rintro (hh | hh) <;> have := hh.1 <;> omega)]
      refine ⟨by omega, by omega, ?_⟩
      rw [link, if_neg h0, List.reverse_reverse, Int.toNat_natCast, Int.toNat_natCast]
      obtain ⟨ins, e⟩ := links _ l m true (root (l.take m)) (Nat.le_refl _) (by omega) hm (fun _ => rfl)
      exact rootsP_of _ _ _ _ _ e
theorem path_le {l : List Str} {i : Nat} (h : ∀ s ∈ l, s.length = 32) (hi : i < l.length) : ∀ s ∈ path l i, s.length ≤ 1000 := fun s hs => by
  have := (inc_yes h hi).2.2.2.1 s hs
  omega
theorem link_le {l : List Str} {m : Nat} (h : ∀ s ∈ l, s.length = 32) (hm : m ≤ l.length) : ∀ s ∈ link l m, s.length ≤ 1000 := fun s hs => by
  have := (ext_yes h hm).2.2.2.2.1 s hs
  omega
theorem link_length (l : List Str) (m : Nat) : (link l m).length ≤ l.length + 1 := by
  rw [link]
  split
  · simp
  · rw [List.length_reverse]; exact linkR_length _ _ _ _ (Nat.le_refl _)

set_option maxHeartbeats 8000000 in
set_option maxRecDepth 100000 in
theorem proves_walk (A : Option Addr) (l : List Str) (c n : Nat) (i m : Int) (w : World) (hn : n = l.length) (hW : S3.Laid w) (hl : Ls w A l c) (hi : isI64 i) (hm : isI64 m) :
    Calls Tryd.prog 4 #[.slice A n c, .int .i64 i, .int .i64 m] w fun e w' => e = .returned (.bool true) ∧ Below w.heap.size w w' := by
  unfold isI64 at hi hm
  have AT := Lib.hid (Lk.At.start hW)
  have HL := Lib.hid hl
  have HN0 := Lib.hid hn
  clear hl hW hn
  by_cases hs : Short 40 l
  case neg =>
    have HS := Lib.hid hs
    clear hs
    go_enter Tryd.func4, Tryd.ntmps4
    go_wp2_with fail
    refine (small_any _ AT.out.laid).mono ?_
    rintro e w1 ⟨rfl, hb⟩
    replace AT := Lib.hid (AT.out.step hb)
    clear hb 
    go_wp2_with fail
    refine (leaves_no AT.out.laid HN0.out (HL.out.rs.step AT.out.bel) HL.out.len HL.out.str HS.out).mono ?_
    rintro e w2 ⟨rfl, hb⟩
    replace AT := Lib.hid (AT.out.step hb)
    clear hb 
    go_wp2
    go_ret
    exact ⟨rfl, AT.out.bel⟩
  have h40 : n ≤ 40 := by have := hs.1; have := HN0.out; omega
  have HS := Lib.hid hs
  clear hs
  by_cases b1 : i < 0
  · go_enter Tryd.func4, Tryd.ntmps4
    go_wp2_with fail
    refine (small_any _ AT.out.laid).mono ?_
    rintro e w1 ⟨rfl, hb⟩
    replace AT := Lib.hid (AT.out.step hb)
    clear hb 
    go_wp2_with fail
    refine (leaves_yes AT.out.laid HN0.out (HL.out.rs.step AT.out.bel) HL.out.len HL.out.str HS.out).mono ?_
    rintro e w2 ⟨A1, c1, n1, rfl, hn, hc, ho, hb⟩
    replace AT := Lib.hid (AT.out.step hb)
    have HN1 := Lib.hid hn
    have HC1 := Lib.hid hc
    have O1 := Lib.hid ho
    have R1 := Lib.hid ho.rs
    clear hn hc ho
    clear hb 
    obtain rfl : n1 = n := by rw [HN1.out, List.length_map, HN0.out]
    go_wp2
    go_ret
    exact ⟨rfl, AT.out.bel⟩
  have b1' : 0 ≤ i := by omega
  clear b1
  by_cases b2 : (n : Int) ≤ i
  · go_enter Tryd.func4, Tryd.ntmps4
    go_wp2_with fail
    refine (small_any _ AT.out.laid).mono ?_
    rintro e w1 ⟨rfl, hb⟩
    replace AT := Lib.hid (AT.out.step hb)
    clear hb 
    go_wp2_with fail
    refine (leaves_yes AT.out.laid HN0.out (HL.out.rs.step AT.out.bel) HL.out.len HL.out.str HS.out).mono ?_
    rintro e w2 ⟨A1, c1, n1, rfl, hn, hc, ho, hb⟩
    replace AT := Lib.hid (AT.out.step hb)
    have HN1 := Lib.hid hn
    have HC1 := Lib.hid hc
    have O1 := Lib.hid ho
    have R1 := Lib.hid ho.rs
    clear hn hc ho
    clear hb 
    obtain rfl : n1 = n := by rw [HN1.out, List.length_map, HN0.out]
    go_wp2
    go_ret
    exact ⟨rfl, AT.out.bel⟩
  have b2' : i < (n : Int) := by omega
  clear b2
  by_cases b3 : m < 0
  · go_enter Tryd.func4, Tryd.ntmps4
    go_wp2_with fail
    refine (small_any _ AT.out.laid).mono ?_
    rintro e w1 ⟨rfl, hb⟩
    replace AT := Lib.hid (AT.out.step hb)
    clear hb 
    go_wp2_with fail
    refine (leaves_yes AT.out.laid HN0.out (HL.out.rs.step AT.out.bel) HL.out.len HL.out.str HS.out).mono ?_
    rintro e w2 ⟨A1, c1, n1, rfl, hn, hc, ho, hb⟩
    replace AT := Lib.hid (AT.out.step hb)
    have HN1 := Lib.hid hn
    have HC1 := Lib.hid hc
    have O1 := Lib.hid ho
    have R1 := Lib.hid ho.rs
    clear hn hc ho
    clear hb 
    obtain rfl : n1 = n := by rw [HN1.out, List.length_map, HN0.out]
    go_wp2
    go_ret
    exact ⟨rfl, AT.out.bel⟩
  have b3' : 0 ≤ m := by omega
  clear b3
  by_cases b4 : (n : Int) < m
  · go_enter Tryd.func4, Tryd.ntmps4
    go_wp2_with fail
    refine (small_any _ AT.out.laid).mono ?_
    rintro e w1 ⟨rfl, hb⟩
    replace AT := Lib.hid (AT.out.step hb)
    clear hb 
    go_wp2_with fail
    refine (leaves_yes AT.out.laid HN0.out (HL.out.rs.step AT.out.bel) HL.out.len HL.out.str HS.out).mono ?_
    rintro e w2 ⟨A1, c1, n1, rfl, hn, hc, ho, hb⟩
    replace AT := Lib.hid (AT.out.step hb)
    have HN1 := Lib.hid hn
    have HC1 := Lib.hid hc
    have O1 := Lib.hid ho
    have R1 := Lib.hid ho.rs
    clear hn hc ho
    clear hb 
    obtain rfl : n1 = n := by rw [HN1.out, List.length_map, HN0.out]
    go_wp2
    go_ret
    exact ⟨rfl, AT.out.bel⟩
  have b4' : m ≤ (n : Int) := by omega
  clear b4
  obtain ⟨i, rfl⟩ := Int.eq_ofNat_of_zero_le b1'
  obtain ⟨m, rfl⟩ := Int.eq_ofNat_of_zero_le b3'
  have hL := dig_leaves l
  have hln : (l.map leaf).length = l.length := List.length_map _
  have hn := HN0.out
  have hiL : i < (l.map leaf).length := by omega
  have hmL : m ≤ (l.map leaf).length := by omega
  have hLs : ∀ s ∈ l.map leaf, s.length ≤ 1000 := fun s hs => by have := hL s hs; omega
  have hLt : ∀ s ∈ (l.map leaf).take m, s.length ≤ 1000 := fun s hs => hLs s (List.mem_of_mem_take hs)
  have hlt : ((l.map leaf).take m).length = m := by rw [List.length_take]; omega
  have kr := fun a c w h hc hW => root_any (some a) (l.map leaf) c n w (by omega) h hc (by omega) hLs hW
  have krt := fun a c w h hc hW => root_any (some a) ((l.map leaf).take m) c m w hlt.symm h hc (by omega) hLt hW
  have kp := fun a c w h hc hW => path_yes (some a) (l.map leaf) i c n (i : Int) w (by omega) rfl h hc (by omega) hLs hiL hW
  have kl := fun a c w h hc hW => link_yes (some a) (l.map leaf) m c n (m : Int) w (by omega) rfl h hc (by omega) hLs hmL hW
  have lr : (root (l.map leaf)).length = 32 := root_dig hL
  have lo : (root ((l.map leaf).take m)).length = 32 := root_dig (fun s hs => hL s (List.mem_of_mem_take hs))
  have lx : ((l.map leaf)[i]).length = 32 := hL _ (List.getElem_mem hiL)
  have hp1 := path_le hL hiL
  have hp2 := path_length (l.map leaf) i
  have hq1 := link_le hL hmL
  have hq2 := link_length (l.map leaf) m
  have ki := fun A k cc w hW hk hr hc => includes_any (l.map leaf)[i] (i : Int) (n : Int) (root (l.map leaf)) (path (l.map leaf) i) A cc k w hW hk hr hc (by omega) hp1 (by omega) (by unfold isI64; omega) (by unfold isI64; omega)
  have ki2 := fun A k cc w hW hk hr hc => includes_any (l.map leaf)[i] (-1) (n : Int) (root (l.map leaf)) (path (l.map leaf) i) A cc k w hW hk hr hc (by omega) hp1 (by omega) (by unfold isI64; omega) (by unfold isI64; omega)
  have ki3 := fun A k cc w hW hk hr hc => includes_any (l.map leaf)[i] (n : Int) (n : Int) (root (l.map leaf)) (path (l.map leaf) i) A cc k w hW hk hr hc (by omega) hp1 (by omega) (by unfold isI64; omega) (by unfold isI64; omega)
  have ke := fun A k cc w hW hk hr hc => extends_any (m : Int) (n : Int) (root ((l.map leaf).take m)) (root (l.map leaf)) (link (l.map leaf) m) A cc k w hW hk hr hc (by omega) hq1 (by omega) (by omega) (by unfold isI64; omega) (by unfold isI64; omega)
  have e1 : IncP (l.map leaf)[i] (i : Int) (n : Int) (root (l.map leaf)) (path (l.map leaf) i) := by have := inc_yes hL hiL; rwa [hln, ← hn] at this
  have e2 : ExtP (m : Int) (n : Int) (root ((l.map leaf).take m)) (root (l.map leaf)) (link (l.map leaf) m) := by have := ext_yes hL hmL; rwa [hln, ← hn] at this
  rw [decide_eq_true e1] at ki
  rw [decide_eq_false inc_low] at ki2
  rw [decide_eq_false inc_high] at ki3
  rw [decide_eq_true e2] at ke
  obtain ⟨x, hx⟩ : ∃ x, (l.map leaf)[i] = x := ⟨_, rfl⟩
  rw [hx] at ki ki2 ki3
  have hi2 : (i : Int) < (n : Int) := by omega
  have hm2 : (m : Int) ≤ (n : Int) := by omega
  have hn2 : (n : Int) ≤ 40 := by omega
  generalize root ((l.map leaf).take m) = ro at *
  generalize root (l.map leaf) = r at *
  generalize path (l.map leaf) i = p at *
  generalize link (l.map leaf) m = q at *
  have KR := Lib.hid kr
  have KRT := Lib.hid krt
  have KP := Lib.hid kp
  have KL := Lib.hid kl
  have KI := Lib.hid ki
  have KI2 := Lib.hid ki2
  have KI3 := Lib.hid ki3
  have KE := Lib.hid ke
  have HX := Lib.hid (show (l.map leaf)[i]? = some x from by rw [← hx]; exact List.getElem?_eq_getElem hiL)
  have HLN := Lib.hid (hln.trans hn.symm)
  clear kr krt kp kl ki ki2 ki3 ke hiL hx hln hn hL hLs hLt hlt lr lo lx hp1 hp2 hq1 hq2 e1 e2 hmL b1' b2' b3' b4' hi hm h40
  go_enter Tryd.func4, Tryd.ntmps4
  go_wp2_with fail
  refine (small_any _ AT.out.laid).mono ?_
  rintro e w1 ⟨rfl, hb⟩
  replace AT := Lib.hid (AT.out.step hb)
  clear hb 
  go_wp2_with fail
  refine (leaves_yes AT.out.laid HN0.out (HL.out.rs.step AT.out.bel) HL.out.len HL.out.str HS.out).mono ?_
  rintro e w2 ⟨A1, c1, n1, rfl, hn, hc, ho, hb⟩
  replace AT := Lib.hid (AT.out.step hb)
  have HN1 := Lib.hid hn
  have HC1 := Lib.hid hc
  have O1 := Lib.hid ho
  have R1 := Lib.hid ho.rs
  clear hn hc ho
  clear hb 
  obtain ⟨a, rfl⟩ := R1.out.some_ (by have := (List.getElem?_eq_some_iff.1 HX.out).1; omega)
  rw [HLN.out] at HN1
  obtain rfl := HN1.out
  generalize l.map leaf = L at *
  go_wp2_with fail
  refine (KR.out _ _ _ R1.out HC1.out AT.out.laid).mono ?_
  rintro e w3 ⟨rfl, hb⟩
  replace AT := Lib.hid (AT.out.step hb)
  replace O1 := Lib.hid (O1.out.step hb)
  replace R1 := Lib.hid (R1.out.step hb)
  clear hb 
  go_wp2_with fail
  refine (KP.out _ _ _ R1.out HC1.out AT.out.laid).mono ?_
  rintro e w4 ⟨A2, c2, n2, rfl, hn, hc, ho, hb⟩
  replace AT := Lib.hid (AT.out.step hb)
  replace O1 := Lib.hid (O1.out.step hb)
  replace R1 := Lib.hid (R1.out.step hb)
  have HN2 := Lib.hid hn
  have HC2 := Lib.hid hc
  have O2 := Lib.hid ho
  have R2 := Lib.hid ho.rs
  clear hn hc ho
  clear hb 
  go_wp2_with fail
  refine (KL.out _ _ _ R1.out HC1.out AT.out.laid).mono ?_
  rintro e w5 ⟨A3, c3, n3, rfl, hn, hc, ho, hb⟩
  replace AT := Lib.hid (AT.out.step hb)
  replace O1 := Lib.hid (O1.out.step hb)
  replace R1 := Lib.hid (R1.out.step hb)
  replace O2 := Lib.hid (O2.out.step hb)
  replace R2 := Lib.hid (R2.out.step hb)
  have HN3 := Lib.hid hn
  have HC3 := Lib.hid hc
  have O3 := Lib.hid ho
  have R3 := Lib.hid ho.rs
  clear hn hc ho
  clear hb 
  clear O1 O2 O3
  have hx := R1.out.at2 HX.out
  go_wp2_with fail
  refine (KI.out _ _ _ _ AT.out.laid HN2.out R2.out HC2.out).mono ?_
  rintro e w6 ⟨rfl, hb⟩
  replace AT := Lib.hid (AT.out.step hb)
  replace R1 := Lib.hid (R1.out.step hb)
  replace R2 := Lib.hid (R2.out.step hb)
  replace R3 := Lib.hid (R3.out.step hb)
  clear hx
  have hx := R1.out.at2 HX.out
  clear hb 
  go_wp2_with fail
  refine (KI2.out _ _ _ _ AT.out.laid HN2.out R2.out HC2.out).mono ?_
  rintro e w7 ⟨rfl, hb⟩
  replace AT := Lib.hid (AT.out.step hb)
  replace R1 := Lib.hid (R1.out.step hb)
  replace R2 := Lib.hid (R2.out.step hb)
  replace R3 := Lib.hid (R3.out.step hb)
  clear hx
  have hx := R1.out.at2 HX.out
  clear hb 
  go_wp2_with fail
  refine (KI3.out _ _ _ _ AT.out.laid HN2.out R2.out HC2.out).mono ?_
  rintro e w8 ⟨rfl, hb⟩
  replace AT := Lib.hid (AT.out.step hb)
  replace R1 := Lib.hid (R1.out.step hb)
  replace R2 := Lib.hid (R2.out.step hb)
  replace R3 := Lib.hid (R3.out.step hb)
  clear hx
  have hmc : m ≤ c1 := by have := HC1.out; omega
  clear hb 
  go_wp2_with fail
  refine (KRT.out _ _ _ (R1.out.take m) (by have := HC1.out; omega) AT.out.laid).mono ?_
  rintro e w9 ⟨rfl, hb⟩
  replace AT := Lib.hid (AT.out.step hb)
  replace R1 := Lib.hid (R1.out.step hb)
  replace R2 := Lib.hid (R2.out.step hb)
  replace R3 := Lib.hid (R3.out.step hb)
  clear hb 
  go_wp2_with fail
  refine (KE.out _ _ _ _ AT.out.laid HN3.out R3.out HC3.out).mono ?_
  rintro e w10 ⟨rfl, hb⟩
  replace AT := Lib.hid (AT.out.step hb)
  replace R1 := Lib.hid (R1.out.step hb)
  replace R2 := Lib.hid (R2.out.step hb)
  replace R3 := Lib.hid (R3.out.step hb)
  clear hb 
  go_wp2
  go_ret
  exact ⟨rfl, AT.out.bel⟩
end Mk
end Go.Proofs.YtfemgakfckabhaaDoor
