/-
  Layer 8: MerkleGrows.
-/
import Derived.Test.YtfemgakfckabhaaDoorMerkleLBinds
namespace Go.Proofs.YtfemgakfckabhaaDoor
open Go.RowKit
namespace Mk
attribute [local go_sem] S3.B_size S3.B_app S3.B_list
theorem rootsR_str {old : Str} {z : Nat} (hz : 32 ≤ z) (ho : old.length ≤ z) : ∀ (t : List Str) (m n : Nat) (mark : Bool) (r : Str × Str × List Str), (∀ s ∈ t, s.length ≤ z) → rootsR old m n t mark = some r → ∀ s ∈ r.2.2, s.length ≤ 1 + z + z
  | [], m, n, mark, r, _, h => by
    unfold rootsR at h
    split at h
    · cases h; intro s hs; simp at hs
    · cases h
  | q :: t, m, n, mark, r, ht, h => by
    have hq := ht q (by simp)
    have ht' : ∀ s ∈ t, s.length ≤ z := fun s h => ht s (by simp [h])
    unfold rootsR at h
    split at h
    · split at h
      · cases h; intro s hs; simp at hs
      · cases h
    split at h
    · obtain ⟨r', h', rfl⟩ := Option.map_eq_some_iff.1 h
      have hr := rootsR_le hz ho t _ _ _ _ ht' h'
      intro s hs
      rcases List.mem_append.1 hs with hs | hs
      · exact rootsR_str hz ho t _ _ _ _ ht' h' s hs
      · rw [List.mem_singleton] at hs
        rw [hs, pre_len]; omega
    · obtain ⟨r', h', rfl⟩ := Option.map_eq_some_iff.1 h
      have hr := rootsR_le hz ho t _ _ _ _ ht' h'
      intro s hs
      rcases List.mem_append.1 hs with hs | hs
      · exact rootsR_str hz ho t _ _ _ _ ht' h' s hs
      · simp only [List.mem_cons, List.not_mem_nil, or_false] at hs
        rcases hs with rfl | rfl <;> rw [pre_len] <;> omega
/-- What is accepted shows that the first list is a beginning of the other, without a clash. -/
theorem ext_grows {a b p : List Str} (ha : ∀ s ∈ a, s.length = 32) (hb : ∀ s ∈ b, s.length = 32) (h0 : 0 < a.length) (h : ExtP (a.length : Int) (b.length : Int) (root a) (root b) p) :
    a.length ≤ b.length ∧ ∃ ra rb ins, rootsR (root a) a.length b.length p.reverse true = some (ra, rb, ins) ∧ (NoClash (inputs a ++ inputs b ++ ins) → a = b.take a.length) := by
  obtain ⟨h1, h2, h3, h4, h5, h6⟩ := h
  have hab : a.length ≤ b.length := by omega
  refine ⟨hab, ?_⟩
  by_cases he : ((a.length : Int) = 0 ∧ root a = H []) ∨ ((a.length : Int) = (b.length : Int) ∧ root a = root b)
  · rw [if_pos he] at h6
    subst h6
    rcases he with he | he
    · have := he.1; omega
    · have hlen : a.length = b.length := by omega
      refine ⟨root a, root a, [], ?_, fun hc => ?_⟩
      · show rootsR (root a) a.length b.length [] true = _
        unfold rootsR
        rw [if_pos ⟨hlen, rfl⟩]
      · have := root_inj _ _ hc a b (Nat.le_refl _) hlen ha hb (fun s hs => by simp [hs]) (fun s hs => by simp [hs]) he.2
        rw [hlen, List.take_length]
        exact this
  · rw [if_neg he] at h6
    obtain ⟨_, _, h7⟩ := h6
    rw [Int.toNat_natCast, Int.toNat_natCast] at h7
    obtain ⟨ins, e⟩ := rootsP_yes _ _ _ _ _ _ h7
    refine ⟨root a, root b, ins, e, fun hc => ?_⟩
    exact grows _ _ hc a b (root a) p.reverse ins true (Nat.le_refl _) h0 hab ha hb (fun s hs => h5 s (List.mem_reverse.1 hs)) h3 (fun _ => rfl) (fun s hs => by simp [hs]) (fun s hs => by simp [hs]) (fun s hs => by simp [hs]) e

set_option maxHeartbeats 8000000 in
set_option maxRecDepth 100000 in
theorem grows_walk (A B C : Option Addr) (l u p : List Str) (ca cb cc n k np : Nat) (w : World) (hns : n = l.length) (hnt : k = u.length) (hnp : np = p.length) (hW : S3.Laid w) (hl : Ls w A l ca) (hu : Ls w B u cb) (hp : Ls w C p cc) :
    Calls Tryd.prog 6 #[.slice A n ca, .slice B k cb, .slice C np cc] w fun e w' => e = .returned (.bool true) ∧ Below w.heap.size w w' := by
  have AT := Lib.hid (Lk.At.start hW)
  have HW := Lib.hid hW
  have HL := Lib.hid hl
  have HT := Lib.hid hu
  have HP := Lib.hid hp
  have HNS := Lib.hid hns
  have HNT := Lib.hid hnt
  have HNP := Lib.hid hnp
  clear hl hu hp hW hns hnt hnp
  by_cases hs : Short 40 l
  case neg =>
    have HS := Lib.hid hs
    clear hs
    by_cases hst : Short 40 u
    · have HST := Lib.hid hst
      clear hst
      go_enter Tryd.func6, Tryd.ntmps6
      go_wp2_with fail
      refine (small_any _ AT.out.laid).mono ?_
      rintro e w1 ⟨rfl, hb⟩
      replace AT := Lib.hid (AT.out.step hb)
      clear hb 
      go_wp2_with fail
      refine (leaves_no AT.out.laid HNS.out (HL.out.rs.step AT.out.bel) HL.out.len HL.out.str HS.out).mono ?_
      rintro e w2 ⟨rfl, hb⟩
      replace AT := Lib.hid (AT.out.step hb)
      clear hb 
      go_wp2_with fail
      refine (leaves_yes AT.out.laid HNT.out (HT.out.rs.step AT.out.bel) HT.out.len HT.out.str HST.out).mono ?_
      rintro e w3 ⟨A2, c2, n2, rfl, hn, hc, ho, hb⟩
      replace AT := Lib.hid (AT.out.step hb)
      have HN2 := Lib.hid hn
      have HC2 := Lib.hid hc
      have O2 := Lib.hid ho
      have R2 := Lib.hid ho.rs
      clear hn hc ho
      clear hb 
      obtain rfl : n2 = k := by rw [HN2.out, List.length_map, HNT.out]
      go_wp2
      go_ret
      exact ⟨rfl, AT.out.bel⟩
    · have HST := Lib.hid hst
      clear hst
      go_enter Tryd.func6, Tryd.ntmps6
      go_wp2_with fail
      refine (small_any _ AT.out.laid).mono ?_
      rintro e w1 ⟨rfl, hb⟩
      replace AT := Lib.hid (AT.out.step hb)
      clear hb 
      go_wp2_with fail
      refine (leaves_no AT.out.laid HNS.out (HL.out.rs.step AT.out.bel) HL.out.len HL.out.str HS.out).mono ?_
      rintro e w2 ⟨rfl, hb⟩
      replace AT := Lib.hid (AT.out.step hb)
      clear hb 
      go_wp2_with fail
      refine (leaves_no AT.out.laid HNT.out (HT.out.rs.step AT.out.bel) HT.out.len HT.out.str HST.out).mono ?_
      rintro e w3 ⟨rfl, hb⟩
      replace AT := Lib.hid (AT.out.step hb)
      clear hb 
      go_wp2
      go_ret
      exact ⟨rfl, AT.out.bel⟩
  have h40 : n ≤ 40 := by have := hs.1; have := HNS.out; omega
  have HS := Lib.hid hs
  clear hs
  by_cases hst : Short 40 u
  case neg =>
    have HST := Lib.hid hst
    clear hst
    go_enter Tryd.func6, Tryd.ntmps6
    go_wp2_with fail
    refine (small_any _ AT.out.laid).mono ?_
    rintro e w1 ⟨rfl, hb⟩
    replace AT := Lib.hid (AT.out.step hb)
    clear hb 
    go_wp2_with fail
    refine (leaves_yes AT.out.laid HNS.out (HL.out.rs.step AT.out.bel) HL.out.len HL.out.str HS.out).mono ?_
    rintro e w2 ⟨A1, c1, n1, rfl, hn, hc, ho, hb⟩
    replace AT := Lib.hid (AT.out.step hb)
    have HN1 := Lib.hid hn
    have HC1 := Lib.hid hc
    have O1 := Lib.hid ho
    have R1 := Lib.hid ho.rs
    clear hn hc ho
    clear hb 
    obtain rfl : n1 = n := by rw [HN1.out, List.length_map, HNS.out]
    go_wp2_with fail
    refine (leaves_no AT.out.laid HNT.out (HT.out.rs.step AT.out.bel) HT.out.len HT.out.str HST.out).mono ?_
    rintro e w3 ⟨rfl, hb⟩
    replace AT := Lib.hid (AT.out.step hb)
    replace O1 := Lib.hid (O1.out.step hb)
    replace R1 := Lib.hid (R1.out.step hb)
    clear hb 
    go_wp2
    go_ret
    exact ⟨rfl, AT.out.bel⟩
  have hk40 : k ≤ 40 := by have := hst.1; have := HNT.out; omega
  have HST := Lib.hid hst
  clear hst
  by_cases b2 : Short 100 p
  case neg =>
    have HSP := Lib.hid b2
    clear b2
    go_enter Tryd.func6, Tryd.ntmps6
    go_wp2_with fail
    refine (small_any _ AT.out.laid).mono ?_
    rintro e w1 ⟨rfl, hb⟩
    replace AT := Lib.hid (AT.out.step hb)
    clear hb 
    go_wp2_with fail
    refine (leaves_yes AT.out.laid HNS.out (HL.out.rs.step AT.out.bel) HL.out.len HL.out.str HS.out).mono ?_
    rintro e w2 ⟨A1, c1, n1, rfl, hn, hc, ho, hb⟩
    replace AT := Lib.hid (AT.out.step hb)
    have HN1 := Lib.hid hn
    have HC1 := Lib.hid hc
    have O1 := Lib.hid ho
    have R1 := Lib.hid ho.rs
    clear hn hc ho
    clear hb 
    obtain rfl : n1 = n := by rw [HN1.out, List.length_map, HNS.out]
    go_wp2_with fail
    refine (leaves_yes AT.out.laid HNT.out (HT.out.rs.step AT.out.bel) HT.out.len HT.out.str HST.out).mono ?_
    rintro e w3 ⟨A2, c2, n2, rfl, hn, hc, ho, hb⟩
    replace AT := Lib.hid (AT.out.step hb)
    replace O1 := Lib.hid (O1.out.step hb)
    replace R1 := Lib.hid (R1.out.step hb)
    have HN2 := Lib.hid hn
    have HC2 := Lib.hid hc
    have O2 := Lib.hid ho
    have R2 := Lib.hid ho.rs
    clear hn hc ho
    clear hb 
    obtain rfl : n2 = k := by rw [HN2.out, List.length_map, HNT.out]
    go_wp2_with fail
    refine (short_no HNP.out (HP.out.rs.step AT.out.bel) HP.out.len HP.out.str HSP.out).mono ?_
    rintro e wq ⟨rfl, hq⟩
    obtain rfl := hq
    go_wp2
    go_ret
    exact ⟨rfl, AT.out.bel⟩
  have hp1 := b2.1
  have hp2 := b2.2
  have HSP := Lib.hid b2
  clear b2
  have hL := dig_leaves l
  have hU := dig_leaves u
  have hln : (l.map leaf).length = n := by rw [List.length_map, HNS.out]
  have hun : (u.map leaf).length = k := by rw [List.length_map, HNT.out]
  have hLs : ∀ s ∈ l.map leaf, s.length ≤ 1000 := fun s hs => by have := hL s hs; omega
  have hUs : ∀ s ∈ u.map leaf, s.length ≤ 1000 := fun s hs => by have := hU s hs; omega
  have hps : ∀ s ∈ p, s.length ≤ 1000 := fun s hs => by have := hp2 s hs; omega
  have kr := fun A c w h hc hW => root_any A (l.map leaf) c n w hln.symm h hc (by omega) hLs hW
  have kr2 := fun A c w h hc hW => root_any A (u.map leaf) c k w hun.symm h hc (by omega) hUs hW
  have lr : (root (l.map leaf)).length = 32 := root_dig hL
  have lr2 : (root (u.map leaf)).length = 32 := root_dig hU
  have ke := fun w hW h => extends_any (n : Int) (k : Int) (root (l.map leaf)) (root (u.map leaf)) p C cc np w hW HNP.out h (by have := HP.out.cap; have := HNP.out; omega) (by omega) hps (by omega) (by omega) (by unfold isI64; omega) (by unfold isI64; omega)
  have KR := Lib.hid kr
  have KR2 := Lib.hid kr2
  clear kr kr2
  have hn3 : (n : Int) ≤ 40 := by omega
  have hk3 : (k : Int) ≤ 40 := by omega
  by_cases b3 : ExtP (n : Int) (k : Int) (root (l.map leaf)) (root (u.map leaf)) p
  case neg =>
    rw [decide_eq_false b3] at ke
    have KE := Lib.hid ke
    generalize root (l.map leaf) = r at *
    generalize root (u.map leaf) = r2 at *
    clear ke b3 hL hU hln hun hLs hUs hps hp1 hp2 lr lr2
    go_enter Tryd.func6, Tryd.ntmps6
    go_wp2_with fail
    refine (small_any _ AT.out.laid).mono ?_
    rintro e w1 ⟨rfl, hb⟩
    replace AT := Lib.hid (AT.out.step hb)
    clear hb 
    go_wp2_with fail
    refine (leaves_yes AT.out.laid HNS.out (HL.out.rs.step AT.out.bel) HL.out.len HL.out.str HS.out).mono ?_
    rintro e w2 ⟨A1, c1, n1, rfl, hn, hc, ho, hb⟩
    replace AT := Lib.hid (AT.out.step hb)
    have HN1 := Lib.hid hn
    have HC1 := Lib.hid hc
    have O1 := Lib.hid ho
    have R1 := Lib.hid ho.rs
    clear hn hc ho
    clear hb 
    obtain rfl : n1 = n := by rw [HN1.out, List.length_map, HNS.out]
    go_wp2_with fail
    refine (leaves_yes AT.out.laid HNT.out (HT.out.rs.step AT.out.bel) HT.out.len HT.out.str HST.out).mono ?_
    rintro e w3 ⟨A2, c2, n2, rfl, hn, hc, ho, hb⟩
    replace AT := Lib.hid (AT.out.step hb)
    replace O1 := Lib.hid (O1.out.step hb)
    replace R1 := Lib.hid (R1.out.step hb)
    have HN2 := Lib.hid hn
    have HC2 := Lib.hid hc
    have O2 := Lib.hid ho
    have R2 := Lib.hid ho.rs
    clear hn hc ho
    clear hb 
    obtain rfl : n2 = k := by rw [HN2.out, List.length_map, HNT.out]
    go_wp2_with fail
    refine (short_yes HNP.out (HP.out.rs.step AT.out.bel) HP.out.len HP.out.str HSP.out).mono ?_
    rintro e wq ⟨rfl, hq⟩
    obtain rfl := hq
    go_wp2_with fail
    refine (KR.out _ _ _ R1.out HC1.out AT.out.laid).mono ?_
    rintro e w4 ⟨rfl, hb⟩
    replace AT := Lib.hid (AT.out.step hb)
    replace O1 := Lib.hid (O1.out.step hb)
    replace R1 := Lib.hid (R1.out.step hb)
    replace O2 := Lib.hid (O2.out.step hb)
    replace R2 := Lib.hid (R2.out.step hb)
    clear hb 
    go_wp2_with fail
    refine (KR2.out _ _ _ R2.out HC2.out AT.out.laid).mono ?_
    rintro e w5 ⟨rfl, hb⟩
    replace AT := Lib.hid (AT.out.step hb)
    replace O1 := Lib.hid (O1.out.step hb)
    replace R1 := Lib.hid (R1.out.step hb)
    replace O2 := Lib.hid (O2.out.step hb)
    replace R2 := Lib.hid (R2.out.step hb)
    clear hb 
    go_wp2_with fail
    refine (KE.out _ AT.out.laid (HP.out.rs.step AT.out.bel)).mono ?_
    rintro e w6 ⟨rfl, hb⟩
    replace AT := Lib.hid (AT.out.step hb)
    replace O1 := Lib.hid (O1.out.step hb)
    replace R1 := Lib.hid (R1.out.step hb)
    replace O2 := Lib.hid (O2.out.step hb)
    replace R2 := Lib.hid (R2.out.step hb)
    clear hb 
    go_wp2
    go_ret
    exact ⟨rfl, AT.out.bel⟩
  rw [decide_eq_true b3] at ke
  have KE := Lib.hid ke
  by_cases h0 : n = 0
  · subst h0
    generalize root (l.map leaf) = r at *
    generalize root (u.map leaf) = r2 at *
    clear ke b3 hL hU hln hun hLs hUs hps hp1 hp2 lr lr2
    go_enter Tryd.func6, Tryd.ntmps6
    go_wp2_with fail
    refine (small_any _ AT.out.laid).mono ?_
    rintro e w1 ⟨rfl, hb⟩
    replace AT := Lib.hid (AT.out.step hb)
    clear hb 
    go_wp2_with fail
    refine (leaves_yes AT.out.laid HNS.out (HL.out.rs.step AT.out.bel) HL.out.len HL.out.str HS.out).mono ?_
    rintro e w2 ⟨A1, c1, n1, rfl, hn, hc, ho, hb⟩
    replace AT := Lib.hid (AT.out.step hb)
    have HN1 := Lib.hid hn
    have HC1 := Lib.hid hc
    have O1 := Lib.hid ho
    have R1 := Lib.hid ho.rs
    clear hn hc ho
    clear hb 
    obtain rfl : n1 = 0 := by rw [HN1.out, List.length_map, HNS.out]
    go_wp2_with fail
    refine (leaves_yes AT.out.laid HNT.out (HT.out.rs.step AT.out.bel) HT.out.len HT.out.str HST.out).mono ?_
    rintro e w3 ⟨A2, c2, n2, rfl, hn, hc, ho, hb⟩
    replace AT := Lib.hid (AT.out.step hb)
    replace O1 := Lib.hid (O1.out.step hb)
    replace R1 := Lib.hid (R1.out.step hb)
    have HN2 := Lib.hid hn
    have HC2 := Lib.hid hc
    have O2 := Lib.hid ho
    have R2 := Lib.hid ho.rs
    clear hn hc ho
    clear hb 
    obtain rfl : n2 = k := by rw [HN2.out, List.length_map, HNT.out]
    go_wp2_with fail
    refine (short_yes HNP.out (HP.out.rs.step AT.out.bel) HP.out.len HP.out.str HSP.out).mono ?_
    rintro e wq ⟨rfl, hq⟩
    obtain rfl := hq
    go_wp2_with fail
    refine (KR.out _ _ _ R1.out HC1.out AT.out.laid).mono ?_
    rintro e w4 ⟨rfl, hb⟩
    replace AT := Lib.hid (AT.out.step hb)
    replace O1 := Lib.hid (O1.out.step hb)
    replace R1 := Lib.hid (R1.out.step hb)
    replace O2 := Lib.hid (O2.out.step hb)
    replace R2 := Lib.hid (R2.out.step hb)
    clear hb 
    go_wp2_with fail
    refine (KR2.out _ _ _ R2.out HC2.out AT.out.laid).mono ?_
    rintro e w5 ⟨rfl, hb⟩
    replace AT := Lib.hid (AT.out.step hb)
    replace O1 := Lib.hid (O1.out.step hb)
    replace R1 := Lib.hid (R1.out.step hb)
    replace O2 := Lib.hid (O2.out.step hb)
    replace R2 := Lib.hid (R2.out.step hb)
    clear hb 
    go_wp2_with fail
    refine (KE.out _ AT.out.laid (HP.out.rs.step AT.out.bel)).mono ?_
    rintro e w6 ⟨rfl, hb⟩
    replace AT := Lib.hid (AT.out.step hb)
    replace O1 := Lib.hid (O1.out.step hb)
    replace R1 := Lib.hid (R1.out.step hb)
    replace O2 := Lib.hid (O2.out.step hb)
    replace R2 := Lib.hid (R2.out.step hb)
    clear hb 
    go_wp2
    go_ret
    exact ⟨rfl, AT.out.bel⟩
  have hn0 : ((n : Int) == 0) = false := by simp; omega
  have b4 := ext_grows hL hU (by omega) (p := p) (by rw [hln, hun]; exact b3)
  rw [hln, hun] at b4
  obtain ⟨hnk, ra, rb, ins, e, hcl⟩ := b4
  have HNK := Lib.hid hnk
  by_cases f1 : l.map leaf = (u.map leaf).take n
  · have HEQ := Lib.hid f1
    generalize root (l.map leaf) = r at *
    generalize root (u.map leaf) = r2 at *
    clear ke b3 hL hU hLs hUs hps hp1 hp2 lr lr2 e hcl f1 h0 hln hun hnk
    go_enter Tryd.func6, Tryd.ntmps6
    go_wp2_with fail
    refine (small_any _ AT.out.laid).mono ?_
    rintro e w1 ⟨rfl, hb⟩
    replace AT := Lib.hid (AT.out.step hb)
    clear hb 
    go_wp2_with fail
    refine (leaves_yes AT.out.laid HNS.out (HL.out.rs.step AT.out.bel) HL.out.len HL.out.str HS.out).mono ?_
    rintro e w2 ⟨A1, c1, n1, rfl, hn, hc, ho, hb⟩
    replace AT := Lib.hid (AT.out.step hb)
    have HN1 := Lib.hid hn
    have HC1 := Lib.hid hc
    have O1 := Lib.hid ho
    have R1 := Lib.hid ho.rs
    clear hn hc ho
    clear hb 
    obtain rfl : n1 = n := by rw [HN1.out, List.length_map, HNS.out]
    go_wp2_with fail
    refine (leaves_yes AT.out.laid HNT.out (HT.out.rs.step AT.out.bel) HT.out.len HT.out.str HST.out).mono ?_
    rintro e w3 ⟨A2, c2, n2, rfl, hn, hc, ho, hb⟩
    replace AT := Lib.hid (AT.out.step hb)
    replace O1 := Lib.hid (O1.out.step hb)
    replace R1 := Lib.hid (R1.out.step hb)
    have HN2 := Lib.hid hn
    have HC2 := Lib.hid hc
    have O2 := Lib.hid ho
    have R2 := Lib.hid ho.rs
    clear hn hc ho
    clear hb 
    obtain rfl : n2 = k := by rw [HN2.out, List.length_map, HNT.out]
    go_wp2_with fail
    refine (short_yes HNP.out (HP.out.rs.step AT.out.bel) HP.out.len HP.out.str HSP.out).mono ?_
    rintro e wq ⟨rfl, hq⟩
    obtain rfl := hq
    go_wp2_with fail
    refine (KR.out _ _ _ R1.out HC1.out AT.out.laid).mono ?_
    rintro e w4 ⟨rfl, hb⟩
    replace AT := Lib.hid (AT.out.step hb)
    replace O1 := Lib.hid (O1.out.step hb)
    replace R1 := Lib.hid (R1.out.step hb)
    replace O2 := Lib.hid (O2.out.step hb)
    replace R2 := Lib.hid (R2.out.step hb)
    clear hb 
    go_wp2_with fail
    refine (KR2.out _ _ _ R2.out HC2.out AT.out.laid).mono ?_
    rintro e w5 ⟨rfl, hb⟩
    replace AT := Lib.hid (AT.out.step hb)
    replace O1 := Lib.hid (O1.out.step hb)
    replace R1 := Lib.hid (R1.out.step hb)
    replace O2 := Lib.hid (O2.out.step hb)
    replace R2 := Lib.hid (R2.out.step hb)
    clear hb 
    go_wp2_with fail
    refine (KE.out _ AT.out.laid (HP.out.rs.step AT.out.bel)).mono ?_
    rintro e w6 ⟨rfl, hb⟩
    replace AT := Lib.hid (AT.out.step hb)
    replace O1 := Lib.hid (O1.out.step hb)
    replace R1 := Lib.hid (R1.out.step hb)
    replace O2 := Lib.hid (O2.out.step hb)
    replace R2 := Lib.hid (R2.out.step hb)
    clear hb 
    have hck := HC2.out
    have hnk : n1 ≤ n2 := HNK.out
    go_wp2_with fail
    refine (same_yes' _ _ _ _ _ _ _ _ _ HN1.out (by rw [List.length_take, ← HN2.out]; omega) R1.out (R2.out.take _) (by have := HN1.out; omega) (by rw [List.length_take]; have := HN1.out; omega) HEQ.out).mono ?_
    rintro e w7 ⟨rfl, hb⟩
    replace AT := Lib.hid (AT.out.step hb)
    replace O1 := Lib.hid (O1.out.step hb)
    replace R1 := Lib.hid (R1.out.step hb)
    replace O2 := Lib.hid (O2.out.step hb)
    replace R2 := Lib.hid (R2.out.step hb)
    clear hb 
    go_wp2
    go_ret
    exact ⟨rfl, AT.out.bel⟩
  have HEQ := Lib.hid f1
  have kb := fun w (h : Rs w C p) => rroots_any (root (l.map leaf)) (by omega) p.reverse n k true ra rb ins (by rw [List.length_reverse]; omega) (fun s hs => hps s (List.mem_reverse.1 hs)) (by omega) hnk (by omega) e C cc np (n : Int) (k : Int) w (by rw [List.length_reverse]; exact HNP.out) rfl rfl (by rw [List.reverse_reverse]; exact h) (by have := HP.out.cap; have := HNP.out; omega)
  have kna := fun A c w h hc => rinputs_any 200 (l.map leaf) (by omega) (by omega) hLs A c n w hln.symm h hc
  have knb := fun A c w h hc => rinputs_any 200 (u.map leaf) (by omega) (by omega) hUs A c k w hun.symm h hc
  have hi1 := inputs_len _ (l.map leaf) (Nat.le_refl _)
  have hi2 := inputs_len _ (u.map leaf) (Nat.le_refl _)
  have hi3 := (rootsR_le (z := 200) (by omega) (by omega) _ _ _ _ _ (fun s hs => hp2 s (List.mem_reverse.1 hs)) e).2.2
  rw [List.length_reverse] at hi3
  have hs1 := inputs_le (n := 32) (by omega) _ (l.map leaf) (Nat.le_refl _) (fun s hs => by have := hL s hs; omega)
  have hs2 := inputs_le (n := 32) (by omega) _ (u.map leaf) (Nat.le_refl _) (fun s hs => by have := hU s hs; omega)
  have hs3 := rootsR_str (z := 200) (by omega) (by omega) _ _ _ _ _ (fun s hs => hp2 s (List.mem_reverse.1 hs)) e
  simp only at hi3 hs3
  have kcl := fun A c q w hn h => clash_yes A (inputs (l.map leaf) ++ inputs (u.map leaf) ++ ins) c q w hn h (by rw [List.length_append, List.length_append]; omega) (fun s hs => by
    rcases List.mem_append.1 hs with hs | hs
    · rcases List.mem_append.1 hs with hs | hs
      · have := hs1 s hs; omega
      · have := hs2 s hs; omega
    · have := hs3 s hs; omega) (fun hh => f1 (hcl hh))
  rw [List.append_assoc] at kcl
  have ha1 : (inputs (l.map leaf)).length ≤ 100 := by omega
  have ha2 : (inputs (u.map leaf)).length ≤ 100 := by omega
  have ha3 : ins.length ≤ 200 := by omega
  have KB := Lib.hid kb
  have KNA := Lib.hid kna
  have KNB := Lib.hid knb
  have KCL := Lib.hid kcl
  generalize root (l.map leaf) = r at *
  generalize root (u.map leaf) = r2 at *
  generalize inputs (l.map leaf) = inp at *
  generalize inputs (u.map leaf) = inq at *
  clear ke b3 hL hU hLs hUs hps hp1 hp2 lr lr2 e hcl f1 h0 hln hun kb kna knb kcl hi1 hi2 hi3 hs1 hs2 hs3 hnk
  go_enter Tryd.func6, Tryd.ntmps6
  go_wp2_with fail
  refine (small_any _ AT.out.laid).mono ?_
  rintro e w1 ⟨rfl, hb⟩
  replace AT := Lib.hid (AT.out.step hb)
  clear hb 
  go_wp2_with fail
  refine (leaves_yes AT.out.laid HNS.out (HL.out.rs.step AT.out.bel) HL.out.len HL.out.str HS.out).mono ?_
  rintro e w2 ⟨A1, c1, n1, rfl, hn, hc, ho, hb⟩
  replace AT := Lib.hid (AT.out.step hb)
  have HN1 := Lib.hid hn
  have HC1 := Lib.hid hc
  have O1 := Lib.hid ho
  have R1 := Lib.hid ho.rs
  clear hn hc ho
  clear hb 
  obtain rfl : n1 = n := by rw [HN1.out, List.length_map, HNS.out]
  go_wp2_with fail
  refine (leaves_yes AT.out.laid HNT.out (HT.out.rs.step AT.out.bel) HT.out.len HT.out.str HST.out).mono ?_
  rintro e w3 ⟨A2, c2, n2, rfl, hn, hc, ho, hb⟩
  replace AT := Lib.hid (AT.out.step hb)
  replace O1 := Lib.hid (O1.out.step hb)
  replace R1 := Lib.hid (R1.out.step hb)
  have HN2 := Lib.hid hn
  have HC2 := Lib.hid hc
  have O2 := Lib.hid ho
  have R2 := Lib.hid ho.rs
  clear hn hc ho
  clear hb 
  obtain rfl : n2 = k := by rw [HN2.out, List.length_map, HNT.out]
  go_wp2_with fail
  refine (short_yes HNP.out (HP.out.rs.step AT.out.bel) HP.out.len HP.out.str HSP.out).mono ?_
  rintro e wq ⟨rfl, hq⟩
  obtain rfl := hq
  go_wp2_with fail
  refine (KR.out _ _ _ R1.out HC1.out AT.out.laid).mono ?_
  rintro e w4 ⟨rfl, hb⟩
  replace AT := Lib.hid (AT.out.step hb)
  replace O1 := Lib.hid (O1.out.step hb)
  replace R1 := Lib.hid (R1.out.step hb)
  replace O2 := Lib.hid (O2.out.step hb)
  replace R2 := Lib.hid (R2.out.step hb)
  clear hb 
  go_wp2_with fail
  refine (KR2.out _ _ _ R2.out HC2.out AT.out.laid).mono ?_
  rintro e w5 ⟨rfl, hb⟩
  replace AT := Lib.hid (AT.out.step hb)
  replace O1 := Lib.hid (O1.out.step hb)
  replace R1 := Lib.hid (R1.out.step hb)
  replace O2 := Lib.hid (O2.out.step hb)
  replace R2 := Lib.hid (R2.out.step hb)
  clear hb 
  go_wp2_with fail
  refine (KE.out _ AT.out.laid (HP.out.rs.step AT.out.bel)).mono ?_
  rintro e w6 ⟨rfl, hb⟩
  replace AT := Lib.hid (AT.out.step hb)
  replace O1 := Lib.hid (O1.out.step hb)
  replace R1 := Lib.hid (R1.out.step hb)
  replace O2 := Lib.hid (O2.out.step hb)
  replace R2 := Lib.hid (R2.out.step hb)
  clear hb 
  have hck := HC2.out
  have hnk : n1 ≤ n2 := HNK.out
  go_wp2_with fail
  refine (same_no _ _ _ _ _ _ _ _ _ HN1.out (by rw [List.length_take, ← HN2.out]; omega) R1.out (R2.out.take _) (by have := HN1.out; omega) (by rw [List.length_take]; have := HN1.out; omega) HEQ.out).mono ?_
  rintro e w7 ⟨rfl, hb⟩
  replace AT := Lib.hid (AT.out.step hb)
  replace O1 := Lib.hid (O1.out.step hb)
  replace R1 := Lib.hid (R1.out.step hb)
  replace O2 := Lib.hid (O2.out.step hb)
  replace R2 := Lib.hid (R2.out.step hb)
  clear hb 
  go_wp2_with fail
  refine (KR.out _ _ _ R1.out HC1.out AT.out.laid).mono ?_
  rintro e w8 ⟨rfl, hb⟩
  replace AT := Lib.hid (AT.out.step hb)
  replace O1 := Lib.hid (O1.out.step hb)
  replace R1 := Lib.hid (R1.out.step hb)
  replace O2 := Lib.hid (O2.out.step hb)
  replace R2 := Lib.hid (R2.out.step hb)
  clear hb 
  go_wp2_with fail
  refine (KB.out _ (HP.out.rs.step AT.out.bel)).mono ?_
  rintro e w9 ⟨A3, c3, n3, rfl, hn, hc, ho, hb⟩
  replace AT := Lib.hid (AT.out.step hb)
  replace O1 := Lib.hid (O1.out.step hb)
  replace R1 := Lib.hid (R1.out.step hb)
  replace O2 := Lib.hid (O2.out.step hb)
  replace R2 := Lib.hid (R2.out.step hb)
  have HN3 := Lib.hid hn
  have HC3 := Lib.hid hc
  have O3 := Lib.hid ho
  have R3 := Lib.hid ho.rs
  clear hn hc ho
  clear hb 
  have UK := Lib.hid (Up.start w9)
  have HKS := Lib.hid AT.out.bel.size
  have KR1 := R1
  clear R1
  have KR2 := R2
  clear R2
  have KR3 := R3
  clear R3
  go_wp2_with fail
  refine (KNA.out _ _ _ (KR1.out.step UK.out.bel) HC1.out).mono ?_
  rintro e w10 ⟨A4, c4, n4, rfl, hn, hc, ho, hb⟩
  replace AT := Lib.hid (AT.out.step hb)
  replace O1 := Lib.hid (O1.out.step hb)
  replace O2 := Lib.hid (O2.out.step hb)
  replace O3 := Lib.hid (O3.out.step hb)
  replace UK := Lib.hid (UK.out.step hb)
  have HN4 := Lib.hid hn
  have HC4 := Lib.hid hc
  have O4 := Lib.hid ho
  have R4 := Lib.hid ho.rs
  clear hn hc ho
  clear hb 
  go_wp2_with fail
  refine (KNB.out _ _ _ (KR2.out.step UK.out.bel) HC2.out).mono ?_
  rintro e w11 ⟨A5, c5, n5, rfl, hn, hc, ho, hb⟩
  replace AT := Lib.hid (AT.out.step hb)
  replace O1 := Lib.hid (O1.out.step hb)
  replace O2 := Lib.hid (O2.out.step hb)
  replace O3 := Lib.hid (O3.out.step hb)
  replace UK := Lib.hid (UK.out.step hb)
  replace O4 := Lib.hid (O4.out.step hb)
  replace R4 := Lib.hid (R4.out.step hb)
  have HN5 := Lib.hid hn
  have HC5 := Lib.hid hc
  have O5 := Lib.hid ho
  have R5 := Lib.hid ho.rs
  clear hn hc ho
  clear hb 
  go_wp2_with (at_builtin; refine wpList_app rfl _ _ rfl O4.out (R5.out) rfl rfl HN5.out (by omega) UK.out.bel.size ?_)
  intro v' w12 ho hg
  have hu := UK.out.grown O4.out (Nat.le_refl _) hg
  replace AT := Lib.hid (At.grown HW.out AT.out O4.out HKS.out hg)
  obtain ⟨A6, n6, c6, rfl, hn, hc⟩ := ho.sl3
  replace UK := Lib.hid hu
  have HN6 := Lib.hid hn
  have HC6 := Lib.hid hc
  have O6 := Lib.hid ho
  have R6 := Lib.hid ho.rs
  clear hn hc ho hu hg O1 O2 O3 O4 R4 O5 R5
  go_wp2_with (at_builtin; refine wpList_app rfl _ _ rfl O6.out (KR3.out.step UK.out.bel) rfl rfl HN3.out (by rw [List.length_append]; omega) UK.out.bel.size ?_)
  intro v' w13 ho hg
  have hu := UK.out.grown O6.out (Nat.le_refl _) hg
  replace AT := Lib.hid (At.grown HW.out AT.out O6.out HKS.out hg)
  obtain ⟨A7, n7, c7, rfl, hn, hc⟩ := ho.sl3
  replace UK := Lib.hid hu
  have HN7 := Lib.hid hn
  have HC7 := Lib.hid hc
  have O7 := Lib.hid ho
  have R7 := Lib.hid ho.rs
  clear hn hc ho hu hg O6 R6
  go_wp2_with fail
  refine (KCL.out _ _ _ _ HN7.out R7.out).mono ?_
  rintro e w14 ⟨rfl, hb⟩
  replace AT := Lib.hid (AT.out.step hb)
  replace UK := Lib.hid (UK.out.step hb)
  replace O7 := Lib.hid (O7.out.step hb)
  replace R7 := Lib.hid (R7.out.step hb)
  clear hb 
  go_wp2
  go_ret
  exact ⟨rfl, AT.out.bel⟩
end Mk
end Go.Proofs.YtfemgakfckabhaaDoor
