/-
  Layer 8: MerkleBinds.
-/
import Derived.Test.YtfemgakfckabhaaDoorMerkleLProves
import Derived.Test.YtfemgakfckabhaaDoorMerkleRef5
namespace Go.Proofs.YtfemgakfckabhaaDoor
open Go.RowKit
namespace Mk
attribute [local go_sem] S3.B_size S3.B_app S3.B_list
theorem wpList_app_g {o : Oper} {a : Act} {w : World} {ops : Array Oper} {rest : List Oper} {Q : Exit → Act → World → Prop}
    (hg : Region.wanted o (yielded ops a.tmps) = true) (s x : Operand) (hop : o.op = Op.call { callee := Callee.builtin Builtin.append, args := #[s, x], argTypes := #[22, 22] })
    {base m c : Nat} {v : Value} {A : Option Addr} {lo ln : List Str} (hown : Own w base v lo) (hsrc : Rs w A ln) (hs : a.eval s = v) (hx : a.eval x = .slice A m c) (hm : m = ln.length) (hn : lo.length + ln.length ≤ 100000) (b3 : base ≤ w.heap.size)
    (hK : ∀ v' w', Own w' base v' (lo ++ ln) → w.grownBy w' v.ownBlock → wpList Tryd.prog ops Q rest (a.put o.dst v') w') :
    wpList Tryd.prog ops Q (o :: rest) a w := by
  refine wpList_step fun K hKK => ?_
  rw [if_pos hg]
  obtain ⟨v', w', hrun, r1, r2⟩ := run_app (w := w) o.type hown hsrc (c := c) hm hn b3
  unfold Oper.wp
  simp [execOp, hop, resolve, invoke, builtin, hs, hx, hrun, Result.andThen]
  exact hKK _ _ (hK v' w' r1 r2)
theorem short_yes {A : Option Addr} {l : List Str} {c n : Nat} {w : World} (hn : n = l.length) (hr : Rs w A l) (hlen : l.length ≤ 140737488355328) (hsz : ∀ s ∈ l, s.length ≤ 140737488355328) (h : Short 100 l) :
    Calls Tryd.prog 10 #[.slice A n c] w fun e w' => e = .returned (.bool true) ∧ w = w' := by
  have k := short_any A l c n w hn hr hlen hsz
  rwa [decide_eq_true h] at k
theorem short_no {A : Option Addr} {l : List Str} {c n : Nat} {w : World} (hn : n = l.length) (hr : Rs w A l) (hlen : l.length ≤ 140737488355328) (hsz : ∀ s ∈ l, s.length ≤ 140737488355328) (h : ¬ Short 100 l) :
    Calls Tryd.prog 10 #[.slice A n c] w fun e w' => e = .returned (.bool false) ∧ w = w' := by
  have k := short_any A l c n w hn hr hlen hsz
  rwa [decide_eq_false h] at k
theorem same_no (A A' : Option Addr) (ss ts : List Str) (c c' ns nt : Nat) (w : World) (hns : ns = ss.length) (hnt : nt = ts.length) (hr : Rs w A ss) (hr' : Rs w A' ts) (hs : ss.length ≤ 100000) (ht : ts.length ≤ 100000) (h : ss ≠ ts) :
    Calls Tryd.prog 17 #[.slice A ns c, .slice A' nt c'] w fun e w' => e = .returned (.bool false) ∧ Below w.heap.size w w' := by
  have k := same_any A A' ss ts c c' ns nt w hns hnt hr hr' hs ht
  rwa [decide_eq_false h] at k
theorem same_yes' (A A' : Option Addr) (ss ts : List Str) (c c' ns nt : Nat) (w : World) (hns : ns = ss.length) (hnt : nt = ts.length) (hr : Rs w A ss) (hr' : Rs w A' ts) (hs : ss.length ≤ 100000) (ht : ts.length ≤ 100000) (h : ss = ts) :
    Calls Tryd.prog 17 #[.slice A ns c, .slice A' nt c'] w fun e w' => e = .returned (.bool true) ∧ Below w.heap.size w w' := by
  have k := same_any A A' ss ts c c' ns nt w hns hnt hr hr' hs ht
  rwa [decide_eq_true h] at k
theorem clash_yes (A : Option Addr) (l : List Str) (c n : Nat) (w : World) (hn : n = l.length) (hr : Rs w A l) (hlen : l.length ≤ 10000) (hsz : ∀ s ∈ l, s.length ≤ 4000) (h : ¬ NoClash l) :
    Calls Tryd.prog 25 #[.slice A n c] w fun e w' => e = .returned (.bool true) ∧ Below w.heap.size w w' := by
  have k := clash_any A l c n w hn hr hlen hsz
  rwa [(clashB_iff l).2 h] at k
theorem climbR_str {x : Str} {z : Nat} (hz : 32 ≤ z) (hx : x.length ≤ z) : ∀ (t : List Str) (i n : Nat) (r : Str × List Str), (∀ s ∈ t, s.length ≤ z) → climbR x i n t = some r → ∀ s ∈ r.2, s.length ≤ 1 + z + z
  | [], i, n, r, _, h => by
    unfold climbR at h
    split at h
    · cases h; intro s hs; simp at hs
    · cases h
  | q :: t, i, n, r, ht, h => by
    have hq := ht q (by simp)
    have ht' : ∀ s ∈ t, s.length ≤ z := fun s h => ht s (by simp [h])
    unfold climbR at h
    split at h
    · cases h
    split at h
    · obtain ⟨r', h', rfl⟩ := Option.map_eq_some_iff.1 h
      have hr : r'.1.length ≤ z := by rcases climbR_le _ _ _ _ h' with e | e <;> rw [e] <;> assumption
      intro s hs
      rcases List.mem_append.1 hs with hs | hs
      · exact climbR_str hz hx t _ _ _ ht' h' s hs
      · rw [List.mem_singleton] at hs
        rw [hs, pre_len]; omega
    · obtain ⟨r', h', rfl⟩ := Option.map_eq_some_iff.1 h
      have hr : r'.1.length ≤ z := by rcases climbR_le _ _ _ _ h' with e | e <;> rw [e] <;> assumption
      intro s hs
      rcases List.mem_append.1 hs with hs | hs
      · exact climbR_str hz hx t _ _ _ ht' h' s hs
      · rw [List.mem_singleton] at hs
        rw [hs, pre_len]; omega

set_option maxHeartbeats 8000000 in
set_option maxRecDepth 100000 in
theorem binds_walk (A B : Option Addr) (l p : List Str) (ca cb n np : Nat) (x : Str) (i : Int) (w : World) (hns : n = l.length) (hnp : np = p.length) (hW : S3.Laid w) (hl : Ls w A l ca) (hp : Ls w B p cb) (hx : x.length ≤ 140737488355328) (hi : isI64 i) :
    Calls Tryd.prog 5 #[.slice A n ca, .string (S3.B x), .int .i64 i, .slice B np cb] w fun e w' => e = .returned (.bool true) ∧ Below w.heap.size w w' := by
  have AT := Lib.hid (Lk.At.start hW)
  have HW := Lib.hid hW
  have HL := Lib.hid hl
  have HP := Lib.hid hp
  have HNS := Lib.hid hns
  have HNP := Lib.hid hnp
  have hxx : (x.length : Int) ≤ 140737488355328 := by omega
  clear hl hp hW hns hnp
  by_cases hs : Short 40 l
  case neg =>
    have HS := Lib.hid hs
    clear hs
    go_enter Tryd.func5, Tryd.ntmps5
    go_wp2_with fail
    refine (small_any _ AT.out.laid).mono ?_
    rintro e w1 ⟨rfl, hb⟩
    replace AT := Lib.hid (AT.out.step hb)
    clear hb 
    go_wp2_with fail
    refine (leaves_no AT.out.laid HNS.out (HL.out.rs.step AT.out.bel) HL.out.len HL.out.str HS.out).mono ?_
    rintro e w2 ⟨rfl, hb⟩
    replace AT := Lib.hid (AT.out.step hb)
    clear hb 
    go_wp2
    go_ret
    exact ⟨rfl, AT.out.bel⟩
  have h40 : n ≤ 40 := by have := hs.1; have := HNS.out; omega
  have HS := Lib.hid hs
  clear hs
  by_cases b1 : 200 < x.length
  · have b1' : (200 : Int) < (x.length : Int) := by omega
    go_enter Tryd.func5, Tryd.ntmps5
    go_wp2_with fail
    refine (small_any _ AT.out.laid).mono ?_
    rintro e w1 ⟨rfl, hb⟩
    replace AT := Lib.hid (AT.out.step hb)
    clear hb 
    go_wp2_with fail
    refine (leaves_yes AT.out.laid HNS.out (HL.out.rs.step AT.out.bel) HL.out.len HL.out.str HS.out).mono ?_
    rintro e w2 ⟨A1, c1, n1, rfl, hn, hc, ho, hb⟩
    replace AT := Lib.hid (AT.out.step hb)
    have HN1 := Lib.hid hn
    have HC1 := Lib.hid hc
    have O1 := Lib.hid ho
    have R1 := Lib.hid ho.rs
    clear hn hc ho
    clear hb 
    go_wp2
    go_ret
    exact ⟨rfl, AT.out.bel⟩
  have b1' : (x.length : Int) ≤ 200 := by omega
  by_cases b2 : Short 100 p
  case neg =>
    have HSP := Lib.hid b2
    clear b2 b1
    go_enter Tryd.func5, Tryd.ntmps5
    go_wp2_with fail
    refine (small_any _ AT.out.laid).mono ?_
    rintro e w1 ⟨rfl, hb⟩
    replace AT := Lib.hid (AT.out.step hb)
    clear hb 
    go_wp2_with fail
    refine (leaves_yes AT.out.laid HNS.out (HL.out.rs.step AT.out.bel) HL.out.len HL.out.str HS.out).mono ?_
    rintro e w2 ⟨A1, c1, n1, rfl, hn, hc, ho, hb⟩
    replace AT := Lib.hid (AT.out.step hb)
    have HN1 := Lib.hid hn
    have HC1 := Lib.hid hc
    have O1 := Lib.hid ho
    have R1 := Lib.hid ho.rs
    clear hn hc ho
    clear hb 
    go_wp2_with fail
    refine (short_no HNP.out (HP.out.rs.step AT.out.bel) HP.out.len HP.out.str HSP.out).mono ?_
    rintro e wq ⟨rfl, hq⟩
    obtain rfl := hq
    go_wp2
    go_ret
    exact ⟨rfl, AT.out.bel⟩
  have hp1 := b2.1
  have hp2 := b2.2
  have HSP := Lib.hid b2
  clear b2 b1
  have hL := dig_leaves l
  have hln : (l.map leaf).length = n := by rw [List.length_map, HNS.out]
  have hLs : ∀ s ∈ l.map leaf, s.length ≤ 1000 := fun s hs => by have := hL s hs; omega
  have hps : ∀ s ∈ p, s.length ≤ 1000 := fun s hs => by have := hp2 s hs; omega
  have kr := fun A c w h hc hW => root_any A (l.map leaf) c n w hln.symm h hc (by omega) hLs hW
  have ki := fun w hW h => includes_any x i (n : Int) (root (l.map leaf)) p B cb np w hW HNP.out h (by have := HP.out.cap; have := HNP.out; omega) (by omega) hps (by omega) hi (by unfold isI64; omega)
  have KR := Lib.hid kr
  clear kr
  by_cases b3 : IncP x i (n : Int) (root (l.map leaf)) p
  case neg =>
    rw [decide_eq_false b3] at ki
    have KI := Lib.hid ki
    generalize root (l.map leaf) = r at *
    clear ki b3 hL hln hLs hps hp1 hp2 hx hi
    go_enter Tryd.func5, Tryd.ntmps5
    go_wp2_with fail
    refine (small_any _ AT.out.laid).mono ?_
    rintro e w1 ⟨rfl, hb⟩
    replace AT := Lib.hid (AT.out.step hb)
    clear hb 
    go_wp2_with fail
    refine (leaves_yes AT.out.laid HNS.out (HL.out.rs.step AT.out.bel) HL.out.len HL.out.str HS.out).mono ?_
    rintro e w2 ⟨A1, c1, n1, rfl, hn, hc, ho, hb⟩
    replace AT := Lib.hid (AT.out.step hb)
    have HN1 := Lib.hid hn
    have HC1 := Lib.hid hc
    have O1 := Lib.hid ho
    have R1 := Lib.hid ho.rs
    clear hn hc ho
    clear hb 
    obtain rfl : n1 = n := by rw [HN1.out, List.length_map, HNS.out]
    go_wp2_with fail
    refine (short_yes HNP.out (HP.out.rs.step AT.out.bel) HP.out.len HP.out.str HSP.out).mono ?_
    rintro e wq ⟨rfl, hq⟩
    obtain rfl := hq
    go_wp2_with fail
    refine (KR.out _ _ _ R1.out HC1.out AT.out.laid).mono ?_
    rintro e w3 ⟨rfl, hb⟩
    replace AT := Lib.hid (AT.out.step hb)
    replace O1 := Lib.hid (O1.out.step hb)
    replace R1 := Lib.hid (R1.out.step hb)
    clear hb 
    go_wp2_with fail
    refine (KI.out _ AT.out.laid (HP.out.rs.step AT.out.bel)).mono ?_
    rintro e w4 ⟨rfl, hb⟩
    replace AT := Lib.hid (AT.out.step hb)
    replace O1 := Lib.hid (O1.out.step hb)
    replace R1 := Lib.hid (R1.out.step hb)
    clear hb 
    go_wp2
    go_ret
    exact ⟨rfl, AT.out.bel⟩
  rw [decide_eq_true b3] at ki
  have KI := Lib.hid ki
  obtain ⟨g1, g2, g3, g4, g5⟩ := b3
  obtain ⟨i, rfl⟩ := Int.eq_ofNat_of_zero_le g1
  rw [Int.toNat_natCast, Int.toNat_natCast] at g5
  obtain ⟨ins, e⟩ := climbP_yes _ _ _ _ g5
  have hiL : i < (l.map leaf).length := by omega
  have kc := fun w (h : Rs w B p) => rclimb_any x (by omega) p.reverse i n (root (l.map leaf)) ins (by rw [List.length_reverse]; omega) (fun s hs => hps s (List.mem_reverse.1 hs)) (by omega) (by omega) (by omega) e B cb np (i : Int) (n : Int) w (by rw [List.length_reverse]; exact HNP.out) rfl rfl (by rw [List.reverse_reverse]; exact h) (by have := HP.out.cap; have := HNP.out; omega)
  have kn := fun A c w h hc => rinputs_any 200 (l.map leaf) (by omega) (by omega) hLs A c n w hln.symm h hc
  have kpa := fun A c w h hc => rpath_any 200 (l.map leaf) i (by omega) (by omega) hLs hiL A c n (i : Int) w hln.symm rfl h hc
  have hcl : NoClash (inputs (l.map leaf) ++ ins) → (l.map leaf)[i]? = some x ∧ p = path (l.map leaf) i := fun h => by
    have := binds _ (l.map leaf) i x p.reverse ins _ (Nat.le_refl _) hiL hL g3 h (fun s hs => by simp [hs]) (fun s hs => by simp [hs]) (by rw [hln]; exact e)
    exact ⟨this.1, by rw [path, ← this.2, List.reverse_reverse]⟩
  have hi1 := inputs_len _ (l.map leaf) (Nat.le_refl _)
  have hi2 := climbR_ins _ _ _ _ e
  rw [List.length_reverse] at hi2
  have hs1 := inputs_le (n := 32) (by omega) _ (l.map leaf) (Nat.le_refl _) (fun s hs => by have := hL s hs; omega)
  have hs2 := climbR_str (z := 200) (by omega) (by omega) _ _ _ _ (fun s hs => hp2 s (List.mem_reverse.1 hs)) e
  simp only at hi2 hs2
  have kcl := fun (hh : ¬ NoClash (inputs (l.map leaf) ++ ins)) A c k w hn h => clash_yes A (inputs (l.map leaf) ++ ins) c k w hn h (by rw [List.length_append]; omega) (fun s hs => by
    rcases List.mem_append.1 hs with hs | hs
    · have := hs1 s hs; omega
    · have := hs2 s hs; omega) hh
  have hpl := path_length (l.map leaf) i
  obtain ⟨y, hy⟩ : ∃ y, (l.map leaf)[i]? = some y := ⟨_, List.getElem?_eq_getElem hiL⟩
  have HX := Lib.hid hy
  have hil : (inputs (l.map leaf)).length ≤ 100 := by omega
  have hin : ins.length ≤ 100 := by omega
  have hpl2 : (path (l.map leaf) i).length ≤ 100 := by omega
  have hi3 : (i : Int) < (n : Int) := by omega
  have hn3 : (n : Int) ≤ 40 := by omega
  have KC := Lib.hid kc
  have KN := Lib.hid kn
  have KPA := Lib.hid kpa
  generalize root (l.map leaf) = r at *
  generalize path (l.map leaf) i = pa at *
  generalize inputs (l.map leaf) = inp at *
  by_cases f1 : y = x
  · subst f1
    by_cases f2 : p = pa
    · have HEQ := Lib.hid f2
      clear kc kn kpa ki kcl hcl hL hln hLs hps hp2 hx hi hy hi1 hi2 hs1 hs2 hpl e g5 g4 g3 g2 g1 hiL f2
      go_enter Tryd.func5, Tryd.ntmps5
      go_wp2_with fail
      refine (small_any _ AT.out.laid).mono ?_
      rintro e w1 ⟨rfl, hb⟩
      replace AT := Lib.hid (AT.out.step hb)
      clear hb 
      go_wp2_with fail
      refine (leaves_yes AT.out.laid HNS.out (HL.out.rs.step AT.out.bel) HL.out.len HL.out.str HS.out).mono ?_
      rintro e w2 ⟨A1, c1, n1, rfl, hn, hc, ho, hb⟩
      replace AT := Lib.hid (AT.out.step hb)
      have HN1 := Lib.hid hn
      have HC1 := Lib.hid hc
      have O1 := Lib.hid ho
      have R1 := Lib.hid ho.rs
      clear hn hc ho
      clear hb 
      obtain rfl : n1 = n := by rw [HN1.out, List.length_map, HNS.out]
      obtain ⟨a, rfl⟩ := R1.out.some_ (by have := (List.getElem?_eq_some_iff.1 HX.out).1; omega)
      go_wp2_with fail
      refine (short_yes HNP.out (HP.out.rs.step AT.out.bel) HP.out.len HP.out.str HSP.out).mono ?_
      rintro e wq ⟨rfl, hq⟩
      obtain rfl := hq
      go_wp2_with fail
      refine (KR.out _ _ _ R1.out HC1.out AT.out.laid).mono ?_
      rintro e w3 ⟨rfl, hb⟩
      replace AT := Lib.hid (AT.out.step hb)
      replace O1 := Lib.hid (O1.out.step hb)
      replace R1 := Lib.hid (R1.out.step hb)
      clear hb 
      go_wp2_with fail
      refine (KI.out _ AT.out.laid (HP.out.rs.step AT.out.bel)).mono ?_
      rintro e w4 ⟨rfl, hb⟩
      replace AT := Lib.hid (AT.out.step hb)
      replace O1 := Lib.hid (O1.out.step hb)
      replace R1 := Lib.hid (R1.out.step hb)
      clear hb 
      go_wp2_with fail
      refine (KC.out _ (HP.out.rs.step AT.out.bel)).mono ?_
      rintro e w5 ⟨A2, c2, n2, rfl, hn, hc, ho, hb⟩
      replace AT := Lib.hid (AT.out.step hb)
      replace O1 := Lib.hid (O1.out.step hb)
      replace R1 := Lib.hid (R1.out.step hb)
      have HN2 := Lib.hid hn
      have HC2 := Lib.hid hc
      have O2 := Lib.hid ho
      have R2 := Lib.hid ho.rs
      clear hn hc ho
      clear hb 
      have UK := Lib.hid (Up.start w5)
      have HKS := Lib.hid AT.out.bel.size
      have KR1 := R1
      clear R1
      have KR2 := R2
      clear R2
      go_wp2_with fail
      refine (KN.out _ _ _ (KR1.out.step UK.out.bel) HC1.out).mono ?_
      rintro e w6 ⟨A3, c3, n3, rfl, hn, hc, ho, hb⟩
      replace AT := Lib.hid (AT.out.step hb)
      replace O1 := Lib.hid (O1.out.step hb)
      replace O2 := Lib.hid (O2.out.step hb)
      replace UK := Lib.hid (UK.out.step hb)
      have HN3 := Lib.hid hn
      have HC3 := Lib.hid hc
      have O3 := Lib.hid ho
      have R3 := Lib.hid ho.rs
      clear hn hc ho
      clear hb 
      go_wp2_with (at_builtin; refine wpList_app rfl _ _ rfl O3.out (KR2.out.step UK.out.bel) rfl rfl HN2.out (by omega) UK.out.bel.size ?_)
      intro v' w7 ho hg
      have hu := UK.out.grown O3.out (Nat.le_refl _) hg
      replace AT := Lib.hid (At.grown HW.out AT.out O3.out HKS.out hg)
      obtain ⟨A4, n4, c4, rfl, hn, hc⟩ := ho.sl3
      replace UK := Lib.hid hu
      have HN4 := Lib.hid hn
      have HC4 := Lib.hid hc
      have O4 := Lib.hid ho
      have R4 := Lib.hid ho.rs
      clear hn hc ho hu hg O1 O2 O3 R3
      have R1 := Lib.hid (KR1.out.step UK.out.bel)
      have R2 := Lib.hid (KR2.out.step UK.out.bel)
      have hx := R1.out.at2 HX.out
      go_wp2_with fail
      refine (KPA.out _ _ _ R1.out HC1.out).mono ?_
      rintro e w8 ⟨A5, c5, n5, rfl, hn, hc, ho, hb⟩
      replace AT := Lib.hid (AT.out.step hb)
      replace UK := Lib.hid (UK.out.step hb)
      replace O4 := Lib.hid (O4.out.step hb)
      replace R4 := Lib.hid (R4.out.step hb)
      replace R1 := Lib.hid (R1.out.step hb)
      replace R2 := Lib.hid (R2.out.step hb)
      have HN5 := Lib.hid hn
      have HC5 := Lib.hid hc
      have O5 := Lib.hid ho
      have R5 := Lib.hid ho.rs
      clear hn hc ho
      clear hb 
      go_wp2_with fail
      refine (same_yes' _ _ _ _ _ _ _ _ _ HNP.out HN5.out (HP.out.rs.step AT.out.bel) R5.out (by omega) (by omega) HEQ.out).mono ?_
      rintro e w9 ⟨rfl, hb⟩
      replace AT := Lib.hid (AT.out.step hb)
      replace UK := Lib.hid (UK.out.step hb)
      replace O4 := Lib.hid (O4.out.step hb)
      replace R4 := Lib.hid (R4.out.step hb)
      replace R1 := Lib.hid (R1.out.step hb)
      replace R2 := Lib.hid (R2.out.step hb)
      replace O5 := Lib.hid (O5.out.step hb)
      replace R5 := Lib.hid (R5.out.step hb)
      clear hb 
      go_wp2
      go_ret
      exact ⟨rfl, AT.out.bel⟩
    · have HEQ := Lib.hid f2
      have KCL := Lib.hid (kcl (fun h => f2 (hcl h).2))
      clear kc kn kpa ki kcl hcl hL hln hLs hps hp2 hx hi hy hi1 hi2 hs1 hs2 hpl e g5 g4 g3 g2 g1 hiL f2
      go_enter Tryd.func5, Tryd.ntmps5
      go_wp2_with fail
      refine (small_any _ AT.out.laid).mono ?_
      rintro e w1 ⟨rfl, hb⟩
      replace AT := Lib.hid (AT.out.step hb)
      clear hb 
      go_wp2_with fail
      refine (leaves_yes AT.out.laid HNS.out (HL.out.rs.step AT.out.bel) HL.out.len HL.out.str HS.out).mono ?_
      rintro e w2 ⟨A1, c1, n1, rfl, hn, hc, ho, hb⟩
      replace AT := Lib.hid (AT.out.step hb)
      have HN1 := Lib.hid hn
      have HC1 := Lib.hid hc
      have O1 := Lib.hid ho
      have R1 := Lib.hid ho.rs
      clear hn hc ho
      clear hb 
      obtain rfl : n1 = n := by rw [HN1.out, List.length_map, HNS.out]
      obtain ⟨a, rfl⟩ := R1.out.some_ (by have := (List.getElem?_eq_some_iff.1 HX.out).1; omega)
      go_wp2_with fail
      refine (short_yes HNP.out (HP.out.rs.step AT.out.bel) HP.out.len HP.out.str HSP.out).mono ?_
      rintro e wq ⟨rfl, hq⟩
      obtain rfl := hq
      go_wp2_with fail
      refine (KR.out _ _ _ R1.out HC1.out AT.out.laid).mono ?_
      rintro e w3 ⟨rfl, hb⟩
      replace AT := Lib.hid (AT.out.step hb)
      replace O1 := Lib.hid (O1.out.step hb)
      replace R1 := Lib.hid (R1.out.step hb)
      clear hb 
      go_wp2_with fail
      refine (KI.out _ AT.out.laid (HP.out.rs.step AT.out.bel)).mono ?_
      rintro e w4 ⟨rfl, hb⟩
      replace AT := Lib.hid (AT.out.step hb)
      replace O1 := Lib.hid (O1.out.step hb)
      replace R1 := Lib.hid (R1.out.step hb)
      clear hb 
      go_wp2_with fail
      refine (KC.out _ (HP.out.rs.step AT.out.bel)).mono ?_
      rintro e w5 ⟨A2, c2, n2, rfl, hn, hc, ho, hb⟩
      replace AT := Lib.hid (AT.out.step hb)
      replace O1 := Lib.hid (O1.out.step hb)
      replace R1 := Lib.hid (R1.out.step hb)
      have HN2 := Lib.hid hn
      have HC2 := Lib.hid hc
      have O2 := Lib.hid ho
      have R2 := Lib.hid ho.rs
      clear hn hc ho
      clear hb 
      have UK := Lib.hid (Up.start w5)
      have HKS := Lib.hid AT.out.bel.size
      have KR1 := R1
      clear R1
      have KR2 := R2
      clear R2
      go_wp2_with fail
      refine (KN.out _ _ _ (KR1.out.step UK.out.bel) HC1.out).mono ?_
      rintro e w6 ⟨A3, c3, n3, rfl, hn, hc, ho, hb⟩
      replace AT := Lib.hid (AT.out.step hb)
      replace O1 := Lib.hid (O1.out.step hb)
      replace O2 := Lib.hid (O2.out.step hb)
      replace UK := Lib.hid (UK.out.step hb)
      have HN3 := Lib.hid hn
      have HC3 := Lib.hid hc
      have O3 := Lib.hid ho
      have R3 := Lib.hid ho.rs
      clear hn hc ho
      clear hb 
      go_wp2_with (at_builtin; refine wpList_app rfl _ _ rfl O3.out (KR2.out.step UK.out.bel) rfl rfl HN2.out (by omega) UK.out.bel.size ?_)
      intro v' w7 ho hg
      have hu := UK.out.grown O3.out (Nat.le_refl _) hg
      replace AT := Lib.hid (At.grown HW.out AT.out O3.out HKS.out hg)
      obtain ⟨A4, n4, c4, rfl, hn, hc⟩ := ho.sl3
      replace UK := Lib.hid hu
      have HN4 := Lib.hid hn
      have HC4 := Lib.hid hc
      have O4 := Lib.hid ho
      have R4 := Lib.hid ho.rs
      clear hn hc ho hu hg O1 O2 O3 R3
      have R1 := Lib.hid (KR1.out.step UK.out.bel)
      have R2 := Lib.hid (KR2.out.step UK.out.bel)
      have hx := R1.out.at2 HX.out
      go_wp2_with fail
      refine (KPA.out _ _ _ R1.out HC1.out).mono ?_
      rintro e w8 ⟨A5, c5, n5, rfl, hn, hc, ho, hb⟩
      replace AT := Lib.hid (AT.out.step hb)
      replace UK := Lib.hid (UK.out.step hb)
      replace O4 := Lib.hid (O4.out.step hb)
      replace R4 := Lib.hid (R4.out.step hb)
      replace R1 := Lib.hid (R1.out.step hb)
      replace R2 := Lib.hid (R2.out.step hb)
      have HN5 := Lib.hid hn
      have HC5 := Lib.hid hc
      have O5 := Lib.hid ho
      have R5 := Lib.hid ho.rs
      clear hn hc ho
      clear hb 
      go_wp2_with fail
      refine (same_no _ _ _ _ _ _ _ _ _ HNP.out HN5.out (HP.out.rs.step AT.out.bel) R5.out (by omega) (by omega) HEQ.out).mono ?_
      rintro e w9 ⟨rfl, hb⟩
      replace AT := Lib.hid (AT.out.step hb)
      replace UK := Lib.hid (UK.out.step hb)
      replace O4 := Lib.hid (O4.out.step hb)
      replace R4 := Lib.hid (R4.out.step hb)
      replace R1 := Lib.hid (R1.out.step hb)
      replace R2 := Lib.hid (R2.out.step hb)
      replace O5 := Lib.hid (O5.out.step hb)
      replace R5 := Lib.hid (R5.out.step hb)
      clear hb 
      go_wp2_with fail
      refine (KCL.out _ _ _ _ HN4.out R4.out).mono ?_
      rintro e w10 ⟨rfl, hb⟩
      replace AT := Lib.hid (AT.out.step hb)
      replace UK := Lib.hid (UK.out.step hb)
      replace O4 := Lib.hid (O4.out.step hb)
      replace R4 := Lib.hid (R4.out.step hb)
      replace R1 := Lib.hid (R1.out.step hb)
      replace R2 := Lib.hid (R2.out.step hb)
      replace O5 := Lib.hid (O5.out.step hb)
      replace R5 := Lib.hid (R5.out.step hb)
      clear hb 
      go_wp2
      go_ret
      exact ⟨rfl, AT.out.bel⟩
  · have KCL := Lib.hid (kcl (fun h => f1 (by have := (hcl h).1; rw [hy] at this; injection this)))
    have ne1 := neq_str' y x f1
    clear kc kn kpa ki kcl hcl hL hln hLs hps hp2 hx hi hy hi1 hi2 hs1 hs2 hpl e g5 g4 g3 g2 g1 hiL f1
    go_enter Tryd.func5, Tryd.ntmps5
    go_wp2_with fail
    refine (small_any _ AT.out.laid).mono ?_
    rintro e w1 ⟨rfl, hb⟩
    replace AT := Lib.hid (AT.out.step hb)
    clear hb 
    go_wp2_with fail
    refine (leaves_yes AT.out.laid HNS.out (HL.out.rs.step AT.out.bel) HL.out.len HL.out.str HS.out).mono ?_
    rintro e w2 ⟨A1, c1, n1, rfl, hn, hc, ho, hb⟩
    replace AT := Lib.hid (AT.out.step hb)
    have HN1 := Lib.hid hn
    have HC1 := Lib.hid hc
    have O1 := Lib.hid ho
    have R1 := Lib.hid ho.rs
    clear hn hc ho
    clear hb 
    obtain rfl : n1 = n := by rw [HN1.out, List.length_map, HNS.out]
    obtain ⟨a, rfl⟩ := R1.out.some_ (by have := (List.getElem?_eq_some_iff.1 HX.out).1; omega)
    go_wp2_with fail
    refine (short_yes HNP.out (HP.out.rs.step AT.out.bel) HP.out.len HP.out.str HSP.out).mono ?_
    rintro e wq ⟨rfl, hq⟩
    obtain rfl := hq
    go_wp2_with fail
    refine (KR.out _ _ _ R1.out HC1.out AT.out.laid).mono ?_
    rintro e w3 ⟨rfl, hb⟩
    replace AT := Lib.hid (AT.out.step hb)
    replace O1 := Lib.hid (O1.out.step hb)
    replace R1 := Lib.hid (R1.out.step hb)
    clear hb 
    go_wp2_with fail
    refine (KI.out _ AT.out.laid (HP.out.rs.step AT.out.bel)).mono ?_
    rintro e w4 ⟨rfl, hb⟩
    replace AT := Lib.hid (AT.out.step hb)
    replace O1 := Lib.hid (O1.out.step hb)
    replace R1 := Lib.hid (R1.out.step hb)
    clear hb 
    go_wp2_with fail
    refine (KC.out _ (HP.out.rs.step AT.out.bel)).mono ?_
    rintro e w5 ⟨A2, c2, n2, rfl, hn, hc, ho, hb⟩
    replace AT := Lib.hid (AT.out.step hb)
    replace O1 := Lib.hid (O1.out.step hb)
    replace R1 := Lib.hid (R1.out.step hb)
    have HN2 := Lib.hid hn
    have HC2 := Lib.hid hc
    have O2 := Lib.hid ho
    have R2 := Lib.hid ho.rs
    clear hn hc ho
    clear hb 
    have UK := Lib.hid (Up.start w5)
    have HKS := Lib.hid AT.out.bel.size
    have KR1 := R1
    clear R1
    have KR2 := R2
    clear R2
    go_wp2_with fail
    refine (KN.out _ _ _ (KR1.out.step UK.out.bel) HC1.out).mono ?_
    rintro e w6 ⟨A3, c3, n3, rfl, hn, hc, ho, hb⟩
    replace AT := Lib.hid (AT.out.step hb)
    replace O1 := Lib.hid (O1.out.step hb)
    replace O2 := Lib.hid (O2.out.step hb)
    replace UK := Lib.hid (UK.out.step hb)
    have HN3 := Lib.hid hn
    have HC3 := Lib.hid hc
    have O3 := Lib.hid ho
    have R3 := Lib.hid ho.rs
    clear hn hc ho
    clear hb 
    go_wp2_with (at_builtin; refine wpList_app rfl _ _ rfl O3.out (KR2.out.step UK.out.bel) rfl rfl HN2.out (by omega) UK.out.bel.size ?_)
    intro v' w7 ho hg
    have hu := UK.out.grown O3.out (Nat.le_refl _) hg
    replace AT := Lib.hid (At.grown HW.out AT.out O3.out HKS.out hg)
    obtain ⟨A4, n4, c4, rfl, hn, hc⟩ := ho.sl3
    replace UK := Lib.hid hu
    have HN4 := Lib.hid hn
    have HC4 := Lib.hid hc
    have O4 := Lib.hid ho
    have R4 := Lib.hid ho.rs
    clear hn hc ho hu hg O1 O2 O3 R3
    have R1 := Lib.hid (KR1.out.step UK.out.bel)
    have R2 := Lib.hid (KR2.out.step UK.out.bel)
    have hx := R1.out.at2 HX.out
    go_wp2_with fail
    refine (KCL.out _ _ _ _ HN4.out R4.out).mono ?_
    rintro e w8 ⟨rfl, hb⟩
    replace AT := Lib.hid (AT.out.step hb)
    replace UK := Lib.hid (UK.out.step hb)
    replace O4 := Lib.hid (O4.out.step hb)
    replace R4 := Lib.hid (R4.out.step hb)
    replace R1 := Lib.hid (R1.out.step hb)
    replace R2 := Lib.hid (R2.out.step hb)
    clear hb 
    go_wp2
    go_ret
    exact ⟨rfl, AT.out.bel⟩
end Mk
end Go.Proofs.YtfemgakfckabhaaDoor
