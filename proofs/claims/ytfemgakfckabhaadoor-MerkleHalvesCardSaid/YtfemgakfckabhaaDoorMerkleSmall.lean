/-
  Layer 8: the law's own small example.
-/
import Derived.Test.YtfemgakfckabhaaDoorMerkleExt
import Derived.Test.YtfemgakfckabhaaDoorMerkleLink
import Derived.Test.YtfemgakfckabhaaDoorMerkleSame
namespace Go.Proofs.YtfemgakfckabhaaDoor
open Go.RowKit
namespace Mk
attribute [local go_sem] S3.B_size S3.B_app S3.B_list
theorem sp3 : sp 3 = 2 := sp_uniq (e := 1) (by decide) (by decide)
theorem sp2 : sp 2 = 1 := sp_uniq (e := 0) (by decide) (by decide)
theorem root2 (a b : Str) : root [a, b] = node a b := by
  rw [root_two (by simp), show ([a, b] : List Str).length = 2 from rfl, sp2]
  show node (root [a]) (root [b]) = _
  rw [root_one, root_one]
theorem root3 (a b c : Str) : root [a, b, c] = node (node a b) c := by
  rw [root_two (by simp), show ([a, b, c] : List Str).length = 3 from rfl, sp3]
  show node (root [a, b]) (root [c]) = _
  rw [root2, root_one]
theorem path3 (a b c : Str) : path [a, b, c] 2 = [node a b] := by
  rw [path_hi (by simp) (by rw [show ([a, b, c] : List Str).length = 3 from rfl, sp3]; decide), show ([a, b, c] : List Str).length = 3 from rfl, sp3]
  show path [c] 0 ++ [root [a, b]] = _
  rw [path_one (by simp), root2]; rfl
theorem link3 (a b c : Str) : link [a, b, c] 2 = [c] := by
  rw [link, if_neg (by decide)]
  show inn [a, b, c] 2 true = _
  rw [inn_lo (by simp) (by simp) (by rw [show ([a, b, c] : List Str).length = 3 from rfl, sp3]; decide), show ([a, b, c] : List Str).length = 3 from rfl, sp3]
  show inn [a, b] ([a, b] : List Str).length true ++ [root [c]] = _
  rw [inn_t, root_one]; rfl
theorem inc3 {c n : Str} (hc : c.length = 32) (hn : n.length = 32) : IncP c 2 3 (node n c) [n] := by
  refine ⟨by decide, by decide, hc, by simp [Digs, hn], ?_⟩
  show climbP c 2 3 [n] = _
  unfold climbP
  rw [if_neg (by decide), sp3, if_neg (by decide)]
  rfl
theorem inc3no {c n r : Str} : ¬ IncP c 1 3 r [n] := by
  intro h
  have h := h.2.2.2.2
  change climbP c 1 3 [n] = (r, true) at h
  unfold climbP at h
  rw [if_neg (by decide), sp3, if_pos (by decide)] at h
  injection h with _ h
  unfold climbP at h
  simp at h
theorem roots3 (o c : Str) : rootsP o 2 3 [c] true = ((o, node o c), true) := by
  unfold rootsP
  rw [if_neg (by decide), if_neg (by decide), sp3, if_pos (by decide)]
  unfold rootsP
  rw [if_pos (by decide)]
theorem ext3 {c n : Str} (hc : c.length = 32) (hn : n.length = 32) : ExtP 2 3 n (node n c) [c] := by
  refine ⟨by decide, by decide, hn, node_len _ _, by simp [Digs, hc], ?_⟩
  rw [if_neg (by rintro (h | h) <;> exact absurd h.1 (by decide))]
  exact ⟨by decide, by decide, roots3 n c⟩
theorem ext3no {c n o : Str} (h : node o c ≠ n) : ¬ ExtP 2 3 o n [c] := by
  intro hx
  have hx := hx.2.2.2.2.2
  rw [if_neg (by rintro (h | h) <;> exact absurd h.1 (by decide))] at hx
  have hx := hx.2.2
  rw [show (2 : Int).toNat = 2 from rfl, show (3 : Int).toNat = 3 from rfl, show ([c] : List Str).reverse = [c] from rfl, roots3] at hx
  injection hx with hx _
  injection hx with _ hx
  exact h hx
theorem same_yes (A A' : Option Addr) (ss : List Str) (c c' ns nt : Nat) (w : World) (hns : ns = ss.length) (hnt : nt = ss.length) (hr : Rs w A ss) (hr' : Rs w A' ss) (hs : ss.length ≤ 100000) :
    Calls Tryd.prog 17 #[.slice A ns c, .slice A' nt c'] w fun e w' => e = .returned (.bool true) ∧ Below w.heap.size w w' := by
  have h := same_any A A' ss ss c c' ns nt w hns hnt hr hr' hs hs
  rwa [decide_eq_true rfl] at h
theorem exNe : node (node (node (leaf [97]) (leaf [98])) (leaf [99])) (leaf [99]) ≠ node (leaf [97]) (leaf [98]) := by decide +kernel
theorem litA : (⟨#[97]⟩ : ByteArray) = S3.B [97] := rfl
theorem litB : (⟨#[98]⟩ : ByteArray) = S3.B [98] := rfl
theorem litC : (⟨#[99]⟩ : ByteArray) = S3.B [99] := rfl
theorem lit0A : (⟨#[0, 97]⟩ : ByteArray) = S3.B [0, 97] := rfl
attribute [local go_sem] lit1 litA litB litC lit0A

set_option maxHeartbeats 8000000 in
set_option maxRecDepth 100000 in
theorem small_any (w : World) (hW : S3.Laid w) : Calls Tryd.prog 9 #[] w fun e w' => e = .returned (.bool true) ∧ Below w.heap.size w w' := by
  have ka := fun w hW => leaf_any [97] w hW (by decide)
  have kb := fun w hW => leaf_any [98] w hW (by decide)
  have kc := fun w hW => leaf_any [99] w hW (by decide)
  have ka2 := fun w hW => sha_any [0, 97] w hW (by decide)
  rw [show H [0, 97] = leaf [97] from rfl] at ka2
  have ne := exNe
  have la := leaf_len [97]
  have lb := leaf_len [98]
  have lc := leaf_len [99]
  generalize leaf [97] = a at *
  generalize leaf [98] = b at *
  generalize leaf [99] = c at *
  have hs : ∀ s ∈ [a, b, c], s.length ≤ 1000 := by
    intro s hs
    simp at hs
    rcases hs with rfl | rfl | rfl <;> omega
  have kn := fun w hW => sha_any (1 :: (a ++ b)) w hW (by simp; omega)
  rw [show H (1 :: (a ++ b)) = node a b from rfl] at kn
  have kn2 := fun w hW => sha_any (1 :: (node a b ++ c)) w hW (by simp [node_len]; omega)
  rw [show H (1 :: (node a b ++ c)) = node (node a b) c from rfl] at kn2
  have kp := fun (g : Nat) w (h : Rs w (some ⟨g, 0, none⟩) [a, b, c]) hW => path_yes (some ⟨g, 0, none⟩) [a, b, c] 2 3 3 2 w rfl rfl h (by omega) (by simp) hs (by simp) hW
  rw [path3] at kp
  have kl := fun (g : Nat) w (h : Rs w (some ⟨g, 0, none⟩) [a, b, c]) hW => link_yes (some ⟨g, 0, none⟩) [a, b, c] 2 3 3 2 w rfl rfl h (by omega) (by simp) hs (by simp) hW
  rw [link3] at kl
  have kr := fun (g : Nat) w (h : Rs w (some ⟨g, 0, none⟩) [a, b, c]) hW => root_any (some ⟨g, 0, none⟩) [a, b, c] 3 3 w rfl h (by omega) (by simp) hs hW
  rw [root3] at kr
  have kr0 := fun w hW => root_any none [] 0 0 w rfl (Rs.nil w none) (by omega) (by simp) (by simp) hW
  rw [root_nil] at kr0
  have kh := fun w hW => sha_any [] w hW (by decide)
  rw [← litN] at kh
  have ln := node_len a b
  have lr := node_len (node a b) c
  have ki := fun A k cc w hW (hk : k = ([node a b] : List Str).length) hr hc => includes_any c 2 3 (node (node a b) c) [node a b] A cc k w hW hk hr hc (by simp) (by simp; omega) (by omega) (by unfold isI64; omega) (by unfold isI64; omega)
  have ki2 := fun A k cc w hW (hk : k = ([node a b] : List Str).length) hr hc => includes_any c 1 3 (node (node a b) c) [node a b] A cc k w hW hk hr hc (by simp) (by simp; omega) (by omega) (by unfold isI64; omega) (by unfold isI64; omega)
  have ke := fun A k cc w hW (hk : k = ([c] : List Str).length) hr hc => extends_any 2 3 (node a b) (node (node a b) c) [c] A cc k w hW hk hr hc (by simp) (by simp; omega) (by omega) (by omega) (by unfold isI64; omega) (by unfold isI64; omega)
  have ke2 := fun A k cc w hW (hk : k = ([c] : List Str).length) hr hc => extends_any 2 3 (node (node a b) c) (node a b) [c] A cc k w hW hk hr hc (by simp) (by simp; omega) (by omega) (by omega) (by unfold isI64; omega) (by unfold isI64; omega)
  rw [decide_eq_true (inc3 lc ln)] at ki
  rw [decide_eq_false inc3no] at ki2
  rw [decide_eq_true (ext3 lc ln)] at ke
  rw [decide_eq_false (ext3no ne)] at ke2
  generalize node (node a b) c = r at *
  generalize node a b = n at *
  generalize H [] = z at *
  have KA := Lib.hid ka
  have KB := Lib.hid kb
  have KC := Lib.hid kc
  have KA2 := Lib.hid ka2
  have KN := Lib.hid kn
  have KN2 := Lib.hid kn2
  have KP := Lib.hid kp
  have KL := Lib.hid kl
  have KR := Lib.hid kr
  have KR0 := Lib.hid kr0
  have KH := Lib.hid kh
  have KI := Lib.hid ki
  have KI2 := Lib.hid ki2
  have KE := Lib.hid ke
  have KE2 := Lib.hid ke2
  have AT := Lib.hid (Lk.At.start hW)
  have hla : a.length ≤ 32 := by omega
  have hlb : b.length ≤ 32 := by omega
  have hlc : c.length ≤ 32 := by omega
  have hln : n.length ≤ 32 := by omega
  clear ka kb kc ka2 kn kn2 kp kl kr kr0 kh ki ki2 ke ke2 hs la lb lc ln lr ne hW
  go_enter Tryd.func9, Tryd.ntmps9
  go_wp2_with fail
  refine (KA.out _ AT.out.laid).mono ?_
  rintro e w1 ⟨rfl, hb⟩
  replace AT := Lib.hid (AT.out.step hb)
  clear hb 
  go_wp2_with fail
  refine (KB.out _ AT.out.laid).mono ?_
  rintro e w2 ⟨rfl, hb⟩
  replace AT := Lib.hid (AT.out.step hb)
  clear hb 
  go_wp2_with fail
  refine (KC.out _ AT.out.laid).mono ?_
  rintro e w3 ⟨rfl, hb⟩
  replace AT := Lib.hid (AT.out.step hb)
  clear hb 
  go_wp2_with fail
  have RL : Hid (Rs (w3.alloc (.cells #[.string (S3.B a), .string (S3.B b), .string (S3.B c)] 9)) (some ⟨w3.heap.size, 0, none⟩) [a, b, c]) := Lib.hid (Rs.lit w3 [a, b, c])
  replace AT := Lib.hid (AT.out.alloc (.cells #[.string (S3.B a), .string (S3.B b), .string (S3.B c)] 9))
  generalize hgx : w3.heap.size = gl at *
  clear hgx
  generalize w3.alloc (.cells #[.string (S3.B a), .string (S3.B b), .string (S3.B c)] 9) = w4 at *
  go_wp2_with fail
  refine (KN.out _ AT.out.laid).mono ?_
  rintro e w5 ⟨rfl, hb⟩
  replace AT := Lib.hid (AT.out.step hb)
  replace RL := Lib.hid (RL.out.step hb)
  clear hb 
  go_wp2_with fail
  refine (KP.out _ _ RL.out AT.out.laid).mono ?_
  rintro e w6 ⟨A6, c6, n6, rfl, hn, hc, ho, hb⟩
  replace AT := Lib.hid (AT.out.step hb)
  replace RL := Lib.hid (RL.out.step hb)
  have HN6 := Lib.hid hn
  have HC6 := Lib.hid hc
  have O6 := Lib.hid ho
  have R6 := Lib.hid ho.rs
  clear hn hc ho
  clear hb 
  go_wp2_with fail
  refine (KL.out _ _ RL.out AT.out.laid).mono ?_
  rintro e w7 ⟨A8, c8, n8, rfl, hn, hc, ho, hb⟩
  replace AT := Lib.hid (AT.out.step hb)
  replace RL := Lib.hid (RL.out.step hb)
  replace O6 := Lib.hid (O6.out.step hb)
  replace R6 := Lib.hid (R6.out.step hb)
  have HN8 := Lib.hid hn
  have HC8 := Lib.hid hc
  have O8 := Lib.hid ho
  have R8 := Lib.hid ho.rs
  clear hn hc ho
  clear hb 
  go_wp2_with fail
  refine (KR.out _ _ RL.out AT.out.laid).mono ?_
  rintro e w8 ⟨rfl, hb⟩
  replace AT := Lib.hid (AT.out.step hb)
  replace RL := Lib.hid (RL.out.step hb)
  replace O6 := Lib.hid (O6.out.step hb)
  replace R6 := Lib.hid (R6.out.step hb)
  replace O8 := Lib.hid (O8.out.step hb)
  replace R8 := Lib.hid (R8.out.step hb)
  clear hb 
  clear RL O6 O8
  go_wp2_with fail
  refine (KA2.out _ AT.out.laid).mono ?_
  rintro e w9 ⟨rfl, hb⟩
  replace AT := Lib.hid (AT.out.step hb)
  replace R6 := Lib.hid (R6.out.step hb)
  replace R8 := Lib.hid (R8.out.step hb)
  clear hb 
  go_wp2_with fail
  refine (KR0.out _ AT.out.laid).mono ?_
  rintro e w10 ⟨rfl, hb⟩
  replace AT := Lib.hid (AT.out.step hb)
  replace R6 := Lib.hid (R6.out.step hb)
  replace R8 := Lib.hid (R8.out.step hb)
  clear hb 
  go_wp2_with fail
  refine (KH.out _ AT.out.laid).mono ?_
  rintro e w11 ⟨rfl, hb⟩
  replace AT := Lib.hid (AT.out.step hb)
  replace R6 := Lib.hid (R6.out.step hb)
  replace R8 := Lib.hid (R8.out.step hb)
  clear hb 
  go_wp2_with fail
  refine (KN2.out _ AT.out.laid).mono ?_
  rintro e w12 ⟨rfl, hb⟩
  replace AT := Lib.hid (AT.out.step hb)
  replace R6 := Lib.hid (R6.out.step hb)
  replace R8 := Lib.hid (R8.out.step hb)
  clear hb 
  go_wp2_with fail
  have RS : Hid (Rs (w12.alloc (.cells #[.string (S3.B n)] 9)) (some ⟨w12.heap.size, 0, none⟩) [n]) := Lib.hid (Rs.lit w12 [n])
  replace AT := Lib.hid (AT.out.alloc (.cells #[.string (S3.B n)] 9))
  replace R6 := Lib.hid (R6.out.alloc (.cells #[.string (S3.B n)] 9))
  replace R8 := Lib.hid (R8.out.alloc (.cells #[.string (S3.B n)] 9))
  generalize hgx : w12.heap.size = gs at *
  clear hgx
  generalize w12.alloc (.cells #[.string (S3.B n)] 9) = w13 at *
  go_wp2_with fail
  refine (same_yes _ _ [n] _ _ _ _ _ HN6.out rfl R6.out RS.out (by simp)).mono ?_
  rintro e w14 ⟨rfl, hb⟩
  replace AT := Lib.hid (AT.out.step hb)
  replace R6 := Lib.hid (R6.out.step hb)
  replace R8 := Lib.hid (R8.out.step hb)
  replace RS := Lib.hid (RS.out.step hb)
  clear hb 
  clear RS
  go_wp2_with fail
  refine (KI.out _ _ _ _ AT.out.laid HN6.out R6.out HC6.out).mono ?_
  rintro e w15 ⟨rfl, hb⟩
  replace AT := Lib.hid (AT.out.step hb)
  replace R6 := Lib.hid (R6.out.step hb)
  replace R8 := Lib.hid (R8.out.step hb)
  clear hb 
  go_wp2_with fail
  refine (KI2.out _ _ _ _ AT.out.laid HN6.out R6.out HC6.out).mono ?_
  rintro e w16 ⟨rfl, hb⟩
  replace AT := Lib.hid (AT.out.step hb)
  replace R6 := Lib.hid (R6.out.step hb)
  replace R8 := Lib.hid (R8.out.step hb)
  clear hb 
  go_wp2_with fail
  have RS : Hid (Rs (w16.alloc (.cells #[.string (S3.B c)] 9)) (some ⟨w16.heap.size, 0, none⟩) [c]) := Lib.hid (Rs.lit w16 [c])
  replace AT := Lib.hid (AT.out.alloc (.cells #[.string (S3.B c)] 9))
  replace R6 := Lib.hid (R6.out.alloc (.cells #[.string (S3.B c)] 9))
  replace R8 := Lib.hid (R8.out.alloc (.cells #[.string (S3.B c)] 9))
  generalize hgx : w16.heap.size = gt at *
  clear hgx
  generalize w16.alloc (.cells #[.string (S3.B c)] 9) = w17 at *
  go_wp2_with fail
  refine (same_yes _ _ [c] _ _ _ _ _ HN8.out rfl R8.out RS.out (by simp)).mono ?_
  rintro e w18 ⟨rfl, hb⟩
  replace AT := Lib.hid (AT.out.step hb)
  replace R6 := Lib.hid (R6.out.step hb)
  replace R8 := Lib.hid (R8.out.step hb)
  replace RS := Lib.hid (RS.out.step hb)
  clear hb 
  clear RS
  go_wp2_with fail
  refine (KE.out _ _ _ _ AT.out.laid HN8.out R8.out HC8.out).mono ?_
  rintro e w19 ⟨rfl, hb⟩
  replace AT := Lib.hid (AT.out.step hb)
  replace R6 := Lib.hid (R6.out.step hb)
  replace R8 := Lib.hid (R8.out.step hb)
  clear hb 
  go_wp2_with fail
  refine (KE2.out _ _ _ _ AT.out.laid HN8.out R8.out HC8.out).mono ?_
  rintro e w20 ⟨rfl, hb⟩
  replace AT := Lib.hid (AT.out.step hb)
  replace R6 := Lib.hid (R6.out.step hb)
  replace R8 := Lib.hid (R8.out.step hb)
  clear hb 
  go_wp2
  go_ret
  exact ⟨rfl, AT.out.bel⟩
end Mk
end Go.Proofs.YtfemgakfckabhaaDoor
