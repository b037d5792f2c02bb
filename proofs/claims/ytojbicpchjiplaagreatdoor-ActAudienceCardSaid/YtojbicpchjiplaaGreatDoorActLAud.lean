/-
  Layer 12: ActAudience's walk, against the package's contracts.
-/
import Derived.Test.YtojbicpchjiplaaGreatDoorActPv
import Derived.Deep.RegionHeld3
namespace Go.Proofs.YtojbicpchjiplaaGreatDoor
open Go.RowKit
namespace Ax
open S11.Idt (Str isId isName ids)
attribute [local go_sem] S2.B_size S2.B_list S2.B_app
theorem litNil : (⟨#[]⟩ : ByteArray) = S2.B [] := rfl
attribute [local go_sem] litNil
set_option maxHeartbeats 4000000 in
set_option maxRecDepth 100000 in
theorem aud_early {keyOk : Int → Int → Bool} {sgn : Int → Int → Str → Int × Int} {ver : Int → Str → Int → Int → Bool} {W : World} (P : Pk keyOk sgn ver W) (hsm : Ok W 9 #[] (.bool true))
    (au : Str) (sq : Int) (pv : Str) (kd tm : Int) (ob tg : Str) (sc : Int) (gr : Str) (to : List Str) (tx bn bd bt : Str) (ep : Int) (ws : List Wr) (n m : Int) (e s : Int) (A : Option Addr) (nA cA : Nat) (Q : Option Addr) (nQ cQ : Nat) (scope : Int) (group text : Str) (hp : Ap W W.heap.size ⟨au, sq, pv, kd, tm, ob, tg, sc, gr, to, tx, ⟨bn, bd, bt⟩, ep, ws, n, m⟩ A nA cA Q nQ cQ) (hz : Sz 281474976710656 140737488355328 ⟨au, sq, pv, kd, tm, ob, tg, sc, gr, to, tx, ⟨bn, bd, bt⟩, ep, ws, n, m⟩) (hg : group.length ≤ 281474976710656) (ht : text.length ≤ 281474976710656)
    (hend : ¬ (text.length ≤ 600 ∧ group.length ≤ 100 ∧ fewB ⟨au, sq, pv, kd, tm, ob, tg, sc, gr, to, tx, ⟨bn, bd, bt⟩, ep, ws, n, m⟩ = true ∧ valid ⟨au, sq, pv, kd, tm, ob, tg, sc, gr, to, tx, ⟨bn, bd, bt⟩, ep, ws, n, m⟩ e s = true ∧ posting kd = true)) :
    Calls Tryz.prog 8 #[vA ⟨au, sq, pv, kd, tm, ob, tg, sc, gr, to, tx, ⟨bn, bd, bt⟩, ep, ws, n, m⟩ e s A nA cA Q nQ cQ, .int .i64 scope, .string (S2.B group), .string (S2.B text)] W fun x w' => x = .returned (.bool true) ∧ Below W.heap.size W w' := by
  have KS := Lib.hid hsm
  have KF := fun w (h : Ap w w.heap.size ⟨au, sq, pv, kd, tm, ob, tg, sc, gr, to, tx, ⟨bn, bd, bt⟩, ep, ws, n, m⟩ A nA cA Q nQ cQ) => few_any ⟨au, sq, pv, kd, tm, ob, tg, sc, gr, to, tx, ⟨bn, bd, bt⟩, ep, ws, n, m⟩ e s A nA cA Q nQ cQ w h hz
  have HP := Lib.hid hp
  have T := Lib.hid (Lk.At.start W)
  have hgI : (group.length : Int) ≤ 281474976710656 := by omega
  have htI : (text.length : Int) ≤ 281474976710656 := by omega
  obtain ⟨fb, hf⟩ : ∃ fb, fb = fewB ⟨au, sq, pv, kd, tm, ob, tg, sc, gr, to, tx, ⟨bn, bd, bt⟩, ep, ws, n, m⟩ := ⟨_, rfl⟩
  rw [← hf] at KF
  replace KF := Lib.hid KF
  obtain ⟨vb, hv⟩ : ∃ vb, vb = valid ⟨au, sq, pv, kd, tm, ob, tg, sc, gr, to, tx, ⟨bn, bd, bt⟩, ep, ws, n, m⟩ e s := ⟨_, rfl⟩
  obtain ⟨pb, hpo⟩ : ∃ pb, pb = posting kd := ⟨_, rfl⟩
  have KR := Lib.hid fun (h1 : fb = true) w hb (h : Ap w w.heap.size ⟨au, sq, pv, kd, tm, ob, tg, sc, gr, to, tx, ⟨bn, bd, bt⟩, ep, ws, n, m⟩ A nA cA Q nQ cQ) => (show Calls Tryz.prog 18 #[vA ⟨au, sq, pv, kd, tm, ob, tg, sc, gr, to, tx, ⟨bn, bd, bt⟩, ep, ws, n, m⟩ e s A nA cA Q nQ cQ] w fun x w' => x = .returned (.bool vb) ∧ Below w.heap.size w w' from by
    rw [hv]
    exact P.right ⟨au, sq, pv, kd, tm, ob, tg, sc, gr, to, tx, ⟨bn, bd, bt⟩, ep, ws, n, m⟩ e s A nA cA Q nQ cQ w hb h ((few_sz (hf.symm.trans h1)).mono (by decide) (by decide)))
  have KP := P.posting kd
  rw [← hpo] at KP
  replace KP := Lib.hid KP
  rw [← hf, ← hv, ← hpo] at hend
  have HE := Lib.hid hend
  clear P hsm hp hz hg ht hf hv hpo hend
  unfold vA
  go_enter Tryz.func8, Tryz.ntmps8
  go_wp2_with (first | fail)
  replace T := Lib.hid (T.out.alloc (.cells #[.string (S2.B au), .int .i64 sq, .string (S2.B pv), .int .i64 kd, .int .i64 tm, .string (S2.B ob), .string (S2.B tg), .int .i64 sc, .string (S2.B gr), .slice A nA cA, .string (S2.B tx), .string (S2.B bn), .string (S2.B bd), .string (S2.B bt), .int .i64 ep, .slice Q nQ cQ, .int .i64 n, .int .i64 m, .int .i64 e, .int .i64 s] 29))
  replace HP := Lib.hid (HP.out.alloc (.cells #[.string (S2.B au), .int .i64 sq, .string (S2.B pv), .int .i64 kd, .int .i64 tm, .string (S2.B ob), .string (S2.B tg), .int .i64 sc, .string (S2.B gr), .slice A nA cA, .string (S2.B tx), .string (S2.B bn), .string (S2.B bd), .string (S2.B bt), .int .i64 ep, .slice Q nQ cQ, .int .i64 n, .int .i64 m, .int .i64 e, .int .i64 s] 29))
  have B1 := Lib.hid (Lk.Bl.new W [.string (S2.B au), .int .i64 sq, .string (S2.B pv), .int .i64 kd, .int .i64 tm, .string (S2.B ob), .string (S2.B tg), .int .i64 sc, .string (S2.B gr), .slice A nA cA, .string (S2.B tx), .string (S2.B bn), .string (S2.B bd), .string (S2.B bt), .int .i64 ep, .slice Q nQ cQ, .int .i64 n, .int .i64 m, .int .i64 e, .int .i64 s] 29)
  generalize W.alloc (.cells #[.string (S2.B au), .int .i64 sq, .string (S2.B pv), .int .i64 kd, .int .i64 tm, .string (S2.B ob), .string (S2.B tg), .int .i64 sc, .string (S2.B gr), .slice A nA cA, .string (S2.B tx), .string (S2.B bn), .string (S2.B bd), .string (S2.B bt), .int .i64 ep, .slice Q nQ cQ, .int .i64 n, .int .i64 m, .int .i64 e, .int .i64 s] 29) = w1 at *
  refine (KS.out _ T.out.bel).mono ?_
  rintro e w2 ⟨rfl, hb⟩
  replace T := Lib.hid (T.out.step hb)
  replace B1 := Lib.hid (B1.out.step hb)
  replace HP := Lib.hid (HP.out.step hb)
  clear hb
  go_wp2_with (first | (refine Lk.act_load rfl _ rfl _ rfl B1.out rfl ?_) | fail)
  refine (KF.out _ HP.out.now).mono ?_
  rintro e w3 ⟨rfl, hb⟩
  replace T := Lib.hid (T.out.step hb)
  replace B1 := Lib.hid (B1.out.step hb)
  replace HP := Lib.hid (HP.out.step hb)
  by_cases hfb : fb = false
  · subst hfb
    clear hb
    go_wp2_with (first | (refine Lk.act_load rfl _ rfl _ rfl B1.out rfl ?_))
    go_ret
    exact ⟨rfl, T.out.bel⟩
  obtain rfl : fb = true := by simpa using hfb
  clear hfb
  clear hb
  go_wp2_with (first | (refine Lk.act_load rfl _ rfl _ rfl B1.out rfl ?_) | fail)
  refine (KR.out trivial _ T.out.bel HP.out.now).mono ?_
  rintro e w4 ⟨rfl, hb⟩
  replace T := Lib.hid (T.out.step hb)
  replace B1 := Lib.hid (B1.out.step hb)
  replace HP := Lib.hid (HP.out.step hb)
  by_cases hvb : vb = false
  · subst hvb
    clear hb
    go_wp2_with (first | (refine Lk.act_load rfl _ rfl _ rfl B1.out rfl ?_))
    go_ret
    exact ⟨rfl, T.out.bel⟩
  obtain rfl : vb = true := by simpa using hvb
  clear hvb
  clear hb
  have cB1_3 := B1.out.c 3 _ rfl
  go_wp2_with (first | (refine Lk.act_load rfl _ rfl _ rfl B1.out rfl ?_) | fail)
  clear cB1_3
  refine (KP.out _ T.out.bel).mono ?_
  rintro e w5 ⟨rfl, hb⟩
  replace T := Lib.hid (T.out.step hb)
  replace B1 := Lib.hid (B1.out.step hb)
  replace HP := Lib.hid (HP.out.step hb)
  by_cases hpb : pb = false
  · subst hpb
    clear hb
    go_wp2_with (first | (refine Lk.act_load rfl _ rfl _ rfl B1.out rfl ?_))
    go_ret
    exact ⟨rfl, T.out.bel⟩
  obtain rfl : pb = true := by simpa using hpb
  clear hpb
  by_cases b1 : 600 < text.length
  · have b1I : (600 : Int) < (text.length : Int) := by omega
    clear hb b1
    go_wp2_with (first | (refine Lk.act_load rfl _ rfl _ rfl B1.out rfl ?_))
    go_ret
    exact ⟨rfl, T.out.bel⟩
  have b1I : ¬ (600 : Int) < (text.length : Int) := by omega
  have b2 : 100 < group.length := by
    by_cases h : 100 < group.length
    · exact h
    · exact absurd ⟨by omega, by omega, by first | rfl | trivial, by first | rfl | trivial, by first | rfl | trivial⟩ HE.out
  have b2I : (100 : Int) < (group.length : Int) := by omega
  clear b1 b2
  clear hb
  go_wp2_with (first | (refine Lk.act_load rfl _ rfl _ rfl B1.out rfl ?_) | fail)
  go_ret
  exact ⟨rfl, T.out.bel⟩
set_option maxHeartbeats 4000000 in
set_option maxRecDepth 100000 in
theorem aud_no {keyOk : Int → Int → Bool} {sgn : Int → Int → Str → Int × Int} {ver : Int → Str → Int → Int → Bool} {W : World} (P : Pk keyOk sgn ver W) (hsm : Ok W 9 #[] (.bool true))
    (au : Str) (sq : Int) (pv : Str) (kd tm : Int) (ob tg : Str) (sc : Int) (gr : Str) (to : List Str) (tx bn bd bt : Str) (ep : Int) (ws : List Wr) (n m : Int) (e s : Int) (A : Option Addr) (nA cA : Nat) (Q : Option Addr) (nQ cQ : Nat) (scope : Int) (group text : Str) (hp : Ap W W.heap.size ⟨au, sq, pv, kd, tm, ob, tg, sc, gr, to, tx, ⟨bn, bd, bt⟩, ep, ws, n, m⟩ A nA cA Q nQ cQ) (hz : Sz 281474976710656 140737488355328 ⟨au, sq, pv, kd, tm, ob, tg, sc, gr, to, tx, ⟨bn, bd, bt⟩, ep, ws, n, m⟩) (hg : group.length ≤ 281474976710656) (ht : text.length ≤ 281474976710656)
    (hT : text.length ≤ 600) (hG : group.length ≤ 100) (hf : fewB ⟨au, sq, pv, kd, tm, ob, tg, sc, gr, to, tx, ⟨bn, bd, bt⟩, ep, ws, n, m⟩ = true) (hv : valid ⟨au, sq, pv, kd, tm, ob, tg, sc, gr, to, tx, ⟨bn, bd, bt⟩, ep, ws, n, m⟩ e s = true) (hpo : posting kd = true) (hc : valid ⟨au, sq, pv, kd, tm, ob, tg, scope, group, to, tx, ⟨bn, bd, bt⟩, ep, ws, n, m⟩ e s = false) :
    Calls Tryz.prog 8 #[vA ⟨au, sq, pv, kd, tm, ob, tg, sc, gr, to, tx, ⟨bn, bd, bt⟩, ep, ws, n, m⟩ e s A nA cA Q nQ cQ, .int .i64 scope, .string (S2.B group), .string (S2.B text)] W fun x w' => x = .returned (.bool true) ∧ Below W.heap.size W w' := by
  have KS := Lib.hid hsm
  have KF := fun w (h : Ap w w.heap.size ⟨au, sq, pv, kd, tm, ob, tg, sc, gr, to, tx, ⟨bn, bd, bt⟩, ep, ws, n, m⟩ A nA cA Q nQ cQ) => few_any ⟨au, sq, pv, kd, tm, ob, tg, sc, gr, to, tx, ⟨bn, bd, bt⟩, ep, ws, n, m⟩ e s A nA cA Q nQ cQ w h hz
  have HP := Lib.hid hp
  have T := Lib.hid (Lk.At.start W)
  have hgI : (group.length : Int) ≤ 281474976710656 := by omega
  have htI : (text.length : Int) ≤ 281474976710656 := by omega
  have b1I : ¬ (600 : Int) < (text.length : Int) := by omega
  have b2I : ¬ (100 : Int) < (group.length : Int) := by omega
  rw [hf] at KF
  replace KF := Lib.hid KF
  have hs := few_sz hf
  have hs6 := hs.mono (show 10000 ≤ 1000000 by decide) (show 70 ≤ 1000000 by decide)
  have KR := fun w hb (h : Ap w w.heap.size ⟨au, sq, pv, kd, tm, ob, tg, sc, gr, to, tx, ⟨bn, bd, bt⟩, ep, ws, n, m⟩ A nA cA Q nQ cQ) => P.right ⟨au, sq, pv, kd, tm, ob, tg, sc, gr, to, tx, ⟨bn, bd, bt⟩, ep, ws, n, m⟩ e s A nA cA Q nQ cQ w hb h hs6
  rw [hv] at KR
  replace KR := Lib.hid KR
  have KP := P.posting kd
  rw [hpo] at KP
  replace KP := Lib.hid KP
  have hgood := valid_good hv
  have hsg : sigOk e s = true := by simp only [valid, Bool.and_eq_true] at hv; exact hv.1
  have szB : Sz 1000000 1000000 ⟨au, sq, pv, kd, tm, ob, tg, 0, [], to, text, bx0, 0, ws, n, m⟩ := ⟨hs6.author, hs6.prev, hs6.object, hs6.target, by simp, by show text.length ≤ 1000000; omega, by simp [bx0], by simp [bx0], by simp [bx0], hs6.to, hs6.tos, hs6.wraps, hs6.boxes⟩
  have szC : Sz 1000000 1000000 ⟨au, sq, pv, kd, tm, ob, tg, scope, group, to, tx, ⟨bn, bd, bt⟩, ep, ws, n, m⟩ := ⟨hs6.author, hs6.prev, hs6.object, hs6.target, by show group.length ≤ 1000000; omega, hs6.text, hs6.nonce, hs6.data, hs6.tag, hs6.to, hs6.tos, hs6.wraps, hs6.boxes⟩
  have KB := fun w hb (h : Ap w w.heap.size ⟨au, sq, pv, kd, tm, ob, tg, sc, gr, to, tx, ⟨bn, bd, bt⟩, ep, ws, n, m⟩ A nA cA Q nQ cQ) => P.right ⟨au, sq, pv, kd, tm, ob, tg, 0, [], to, text, bx0, 0, ws, n, m⟩ e s A nA cA Q nQ cQ w hb (h.as rfl rfl) szB
  have KC := fun w hb (h : Ap w w.heap.size ⟨au, sq, pv, kd, tm, ob, tg, sc, gr, to, tx, ⟨bn, bd, bt⟩, ep, ws, n, m⟩ A nA cA Q nQ cQ) => P.right ⟨au, sq, pv, kd, tm, ob, tg, scope, group, to, tx, ⟨bn, bd, bt⟩, ep, ws, n, m⟩ e s A nA cA Q nQ cQ w hb (h.as rfl rfl) szC
  have KN := P.nameR group (by omega)
  have vB : valid ⟨au, sq, pv, kd, tm, ob, tg, 0, [], to, text, bx0, 0, ws, n, m⟩ e s = decide (text.length ≤ 500) := by
    unfold valid
    rw [hsg, Bool.true_and]
    exact aud_public (a := ⟨au, sq, pv, kd, tm, ob, tg, sc, gr, to, tx, ⟨bn, bd, bt⟩, ep, ws, n, m⟩) hpo hgood text
  rw [vB] at KB
  have hoth := fun (h : valid ⟨au, sq, pv, kd, tm, ob, tg, scope, group, to, tx, ⟨bn, bd, bt⟩, ep, ws, n, m⟩ e s = true) => aud_other (a := ⟨au, sq, pv, kd, tm, ob, tg, sc, gr, to, tx, ⟨bn, bd, bt⟩, ep, ws, n, m⟩) hpo hgood (sc := scope) (g := group) (valid_good h)
  obtain ⟨t5, ht5⟩ : ∃ t5, t5 = decide (text.length ≤ 500) := ⟨_, rfl⟩
  rw [← ht5] at KB
  replace KB := Lib.hid KB
  have t5I : decide ((text.length : Int) ≤ 500) = t5 := by rw [ht5]; congr 1; exact propext (by omega)
  rw [hc] at KC
  replace KC := Lib.hid KC
  clear P hsm hp hz hg ht hf hv hpo hs hs6 hgood hsg szB szC vB ht5 hT hG hc hoth KN
  unfold vA
  go_enter Tryz.func8, Tryz.ntmps8
  go_wp2_with (first | fail)
  replace T := Lib.hid (T.out.alloc (.cells #[.string (S2.B au), .int .i64 sq, .string (S2.B pv), .int .i64 kd, .int .i64 tm, .string (S2.B ob), .string (S2.B tg), .int .i64 sc, .string (S2.B gr), .slice A nA cA, .string (S2.B tx), .string (S2.B bn), .string (S2.B bd), .string (S2.B bt), .int .i64 ep, .slice Q nQ cQ, .int .i64 n, .int .i64 m, .int .i64 e, .int .i64 s] 29))
  replace HP := Lib.hid (HP.out.alloc (.cells #[.string (S2.B au), .int .i64 sq, .string (S2.B pv), .int .i64 kd, .int .i64 tm, .string (S2.B ob), .string (S2.B tg), .int .i64 sc, .string (S2.B gr), .slice A nA cA, .string (S2.B tx), .string (S2.B bn), .string (S2.B bd), .string (S2.B bt), .int .i64 ep, .slice Q nQ cQ, .int .i64 n, .int .i64 m, .int .i64 e, .int .i64 s] 29))
  have B1 := Lib.hid (Lk.Bl.new W [.string (S2.B au), .int .i64 sq, .string (S2.B pv), .int .i64 kd, .int .i64 tm, .string (S2.B ob), .string (S2.B tg), .int .i64 sc, .string (S2.B gr), .slice A nA cA, .string (S2.B tx), .string (S2.B bn), .string (S2.B bd), .string (S2.B bt), .int .i64 ep, .slice Q nQ cQ, .int .i64 n, .int .i64 m, .int .i64 e, .int .i64 s] 29)
  generalize W.alloc (.cells #[.string (S2.B au), .int .i64 sq, .string (S2.B pv), .int .i64 kd, .int .i64 tm, .string (S2.B ob), .string (S2.B tg), .int .i64 sc, .string (S2.B gr), .slice A nA cA, .string (S2.B tx), .string (S2.B bn), .string (S2.B bd), .string (S2.B bt), .int .i64 ep, .slice Q nQ cQ, .int .i64 n, .int .i64 m, .int .i64 e, .int .i64 s] 29) = w1 at *
  refine (KS.out _ T.out.bel).mono ?_
  rintro e w2 ⟨rfl, hb⟩
  replace T := Lib.hid (T.out.step hb)
  replace B1 := Lib.hid (B1.out.step hb)
  replace HP := Lib.hid (HP.out.step hb)
  clear hb
  go_wp2_with (first | (refine Lk.act_load rfl _ rfl _ rfl B1.out rfl ?_) | fail)
  refine (KF.out _ HP.out.now).mono ?_
  rintro e w3 ⟨rfl, hb⟩
  replace T := Lib.hid (T.out.step hb)
  replace B1 := Lib.hid (B1.out.step hb)
  replace HP := Lib.hid (HP.out.step hb)
  clear hb
  go_wp2_with (first | (refine Lk.act_load rfl _ rfl _ rfl B1.out rfl ?_) | fail)
  refine (KR.out _ T.out.bel HP.out.now).mono ?_
  rintro e w4 ⟨rfl, hb⟩
  replace T := Lib.hid (T.out.step hb)
  replace B1 := Lib.hid (B1.out.step hb)
  replace HP := Lib.hid (HP.out.step hb)
  clear hb
  have cB1_3 := B1.out.c 3 _ rfl
  go_wp2_with (first | (refine Lk.act_load rfl _ rfl _ rfl B1.out rfl ?_) | fail)
  clear cB1_3
  refine (KP.out _ T.out.bel).mono ?_
  rintro e w5 ⟨rfl, hb⟩
  replace T := Lib.hid (T.out.step hb)
  replace B1 := Lib.hid (B1.out.step hb)
  replace HP := Lib.hid (HP.out.step hb)
  clear hb
  go_wp2_with (first | (refine Lk.act_new rfl _ _ rfl _ _ rfl rfl rfl rfl (by simp [Value.oneCell']) ?_) | (refine Lk.act_load rfl _ rfl _ rfl B1.out rfl ?_) | fail)
  intro w6 bN hb
  have LB1_Z2 := Lib.hid (show W.heap.size < w5.heap.size from B1.out.lt)
  have GZ2 := Lib.hid (show W.heap.size ≤ w5.heap.size from T.out.bel.size)
  replace T := Lib.hid (T.out.step hb)
  replace B1 := Lib.hid (B1.out.step hb)
  replace HP := Lib.hid (HP.out.step hb)
  have Z2 := Lib.hid (show Lk.Bl w6 w5.heap.size [.string (S2.B au), .int .i64 sq, .string (S2.B pv), .int .i64 kd, .int .i64 tm, .string (S2.B ob), .string (S2.B tg), .int .i64 sc, .string (S2.B gr), .slice A nA cA, .string (S2.B tx), .string (S2.B bn), .string (S2.B bd), .string (S2.B bt), .int .i64 ep, .slice Q nQ cQ, .int .i64 n, .int .i64 m, .int .i64 e, .int .i64 s] 29 from bN)
  clear bN hb
  go_wp2_with (first | (refine Lk.act_set rfl _ _ _ rfl _ 7 rfl _ rfl #[.int .i64 0] rfl Z2.out Lk.infoI (Nat.le_of_ble_eq_true rfl) (by simp [Value.oneCell']) [.string (S2.B au), .int .i64 sq, .string (S2.B pv), .int .i64 kd, .int .i64 tm, .string (S2.B ob), .string (S2.B tg), .int .i64 0, .string (S2.B gr), .slice A nA cA, .string (S2.B tx), .string (S2.B bn), .string (S2.B bd), .string (S2.B bt), .int .i64 ep, .slice Q nQ cQ, .int .i64 n, .int .i64 m, .int .i64 e, .int .i64 s] rfl ?_) | (refine Lk.act_load rfl _ rfl _ rfl B1.out rfl ?_) | (refine Lk.act_load rfl _ rfl _ rfl Z2.out rfl ?_) | fail)
  intro w7 bN hb
  replace B1 := Lib.hid (B1.out.under hb LB1_Z2.out)
  replace Z2 := Lib.hid bN
  replace T := Lib.hid (T.out.under hb GZ2.out)
  replace HP := Lib.hid (HP.out.under hb GZ2.out)
  clear bN hb
  go_wp2_with (first | (refine Lk.act_set rfl _ _ _ rfl _ 8 rfl _ rfl #[.string (S2.B [])] rfl Z2.out Lk.infoS (Nat.le_of_ble_eq_true rfl) (by simp [Value.oneCell']) [.string (S2.B au), .int .i64 sq, .string (S2.B pv), .int .i64 kd, .int .i64 tm, .string (S2.B ob), .string (S2.B tg), .int .i64 0, .string (S2.B []), .slice A nA cA, .string (S2.B tx), .string (S2.B bn), .string (S2.B bd), .string (S2.B bt), .int .i64 ep, .slice Q nQ cQ, .int .i64 n, .int .i64 m, .int .i64 e, .int .i64 s] rfl ?_) | (refine Lk.act_load rfl _ rfl _ rfl B1.out rfl ?_) | (refine Lk.act_load rfl _ rfl _ rfl Z2.out rfl ?_) | fail)
  intro w8 bN hb
  replace B1 := Lib.hid (B1.out.under hb LB1_Z2.out)
  replace Z2 := Lib.hid bN
  replace T := Lib.hid (T.out.under hb GZ2.out)
  replace HP := Lib.hid (HP.out.under hb GZ2.out)
  clear bN hb
  go_wp2_with (first | (refine Lk.act_set rfl _ _ _ rfl _ 14 rfl _ rfl #[.int .i64 0] rfl Z2.out Lk.infoI (Nat.le_of_ble_eq_true rfl) (by simp [Value.oneCell']) [.string (S2.B au), .int .i64 sq, .string (S2.B pv), .int .i64 kd, .int .i64 tm, .string (S2.B ob), .string (S2.B tg), .int .i64 0, .string (S2.B []), .slice A nA cA, .string (S2.B tx), .string (S2.B bn), .string (S2.B bd), .string (S2.B bt), .int .i64 0, .slice Q nQ cQ, .int .i64 n, .int .i64 m, .int .i64 e, .int .i64 s] rfl ?_) | (refine Lk.act_load rfl _ rfl _ rfl B1.out rfl ?_) | (refine Lk.act_load rfl _ rfl _ rfl Z2.out rfl ?_) | fail)
  intro w9 bN hb
  replace B1 := Lib.hid (B1.out.under hb LB1_Z2.out)
  replace Z2 := Lib.hid bN
  replace T := Lib.hid (T.out.under hb GZ2.out)
  replace HP := Lib.hid (HP.out.under hb GZ2.out)
  clear bN hb
  go_wp2_with (first | (refine Lk.act_set rfl _ _ _ rfl _ 10 rfl _ rfl #[.string (S2.B text)] rfl Z2.out Lk.infoS (Nat.le_of_ble_eq_true rfl) (by simp [Value.oneCell']) [.string (S2.B au), .int .i64 sq, .string (S2.B pv), .int .i64 kd, .int .i64 tm, .string (S2.B ob), .string (S2.B tg), .int .i64 0, .string (S2.B []), .slice A nA cA, .string (S2.B text), .string (S2.B bn), .string (S2.B bd), .string (S2.B bt), .int .i64 0, .slice Q nQ cQ, .int .i64 n, .int .i64 m, .int .i64 e, .int .i64 s] rfl ?_) | (refine Lk.act_load rfl _ rfl _ rfl B1.out rfl ?_) | (refine Lk.act_load rfl _ rfl _ rfl Z2.out rfl ?_) | fail)
  intro w10 bN hb
  replace B1 := Lib.hid (B1.out.under hb LB1_Z2.out)
  replace Z2 := Lib.hid bN
  replace T := Lib.hid (T.out.under hb GZ2.out)
  replace HP := Lib.hid (HP.out.under hb GZ2.out)
  clear bN hb
  go_wp2_with (first | (refine Lk.act_set rfl _ _ _ rfl _ 11 rfl _ rfl #[.string (S2.B []), .string (S2.B []), .string (S2.B [])] rfl Z2.out Lk.infoB (Nat.le_of_ble_eq_true rfl) (by simp [Value.oneCell']) [.string (S2.B au), .int .i64 sq, .string (S2.B pv), .int .i64 kd, .int .i64 tm, .string (S2.B ob), .string (S2.B tg), .int .i64 0, .string (S2.B []), .slice A nA cA, .string (S2.B text), .string (S2.B []), .string (S2.B []), .string (S2.B []), .int .i64 0, .slice Q nQ cQ, .int .i64 n, .int .i64 m, .int .i64 e, .int .i64 s] rfl ?_) | (refine Lk.act_load rfl _ rfl _ rfl B1.out rfl ?_) | (refine Lk.act_load rfl _ rfl _ rfl Z2.out rfl ?_) | fail)
  intro w11 bN hb
  replace B1 := Lib.hid (B1.out.under hb LB1_Z2.out)
  replace Z2 := Lib.hid bN
  replace T := Lib.hid (T.out.under hb GZ2.out)
  replace HP := Lib.hid (HP.out.under hb GZ2.out)
  clear bN hb
  go_wp2_with (first | (refine Lk.act_new rfl _ _ rfl _ _ rfl rfl rfl rfl (by simp [Value.oneCell']) ?_) | (refine Lk.act_load rfl _ rfl _ rfl B1.out rfl ?_) | (refine Lk.act_load rfl _ rfl _ rfl Z2.out rfl ?_) | fail)
  intro w12 bN hb
  have LB1_Z3 := Lib.hid (show W.heap.size < w11.heap.size from B1.out.lt)
  have LZ2_Z3 := Lib.hid (show w5.heap.size < w11.heap.size from Z2.out.lt)
  have GZ3 := Lib.hid (show W.heap.size ≤ w11.heap.size from T.out.bel.size)
  replace T := Lib.hid (T.out.step hb)
  replace B1 := Lib.hid (B1.out.step hb)
  replace Z2 := Lib.hid (Z2.out.step hb)
  replace HP := Lib.hid (HP.out.step hb)
  have Z3 := Lib.hid (show Lk.Bl w12 w11.heap.size [.string (S2.B au), .int .i64 sq, .string (S2.B pv), .int .i64 kd, .int .i64 tm, .string (S2.B ob), .string (S2.B tg), .int .i64 sc, .string (S2.B gr), .slice A nA cA, .string (S2.B tx), .string (S2.B bn), .string (S2.B bd), .string (S2.B bt), .int .i64 ep, .slice Q nQ cQ, .int .i64 n, .int .i64 m, .int .i64 e, .int .i64 s] 29 from bN)
  clear bN hb
  go_wp2_with (first | (refine Lk.act_set rfl _ _ _ rfl _ 7 rfl _ rfl #[.int .i64 scope] rfl Z3.out Lk.infoI (Nat.le_of_ble_eq_true rfl) (by simp [Value.oneCell']) [.string (S2.B au), .int .i64 sq, .string (S2.B pv), .int .i64 kd, .int .i64 tm, .string (S2.B ob), .string (S2.B tg), .int .i64 scope, .string (S2.B gr), .slice A nA cA, .string (S2.B tx), .string (S2.B bn), .string (S2.B bd), .string (S2.B bt), .int .i64 ep, .slice Q nQ cQ, .int .i64 n, .int .i64 m, .int .i64 e, .int .i64 s] rfl ?_) | (refine Lk.act_load rfl _ rfl _ rfl B1.out rfl ?_) | (refine Lk.act_load rfl _ rfl _ rfl Z2.out rfl ?_) | (refine Lk.act_load rfl _ rfl _ rfl Z3.out rfl ?_) | fail)
  intro w13 bN hb
  replace B1 := Lib.hid (B1.out.under hb LB1_Z3.out)
  replace Z2 := Lib.hid (Z2.out.under hb LZ2_Z3.out)
  replace Z3 := Lib.hid bN
  replace T := Lib.hid (T.out.under hb GZ3.out)
  replace HP := Lib.hid (HP.out.under hb GZ3.out)
  clear bN hb
  go_wp2_with (first | (refine Lk.act_set rfl _ _ _ rfl _ 8 rfl _ rfl #[.string (S2.B group)] rfl Z3.out Lk.infoS (Nat.le_of_ble_eq_true rfl) (by simp [Value.oneCell']) [.string (S2.B au), .int .i64 sq, .string (S2.B pv), .int .i64 kd, .int .i64 tm, .string (S2.B ob), .string (S2.B tg), .int .i64 scope, .string (S2.B group), .slice A nA cA, .string (S2.B tx), .string (S2.B bn), .string (S2.B bd), .string (S2.B bt), .int .i64 ep, .slice Q nQ cQ, .int .i64 n, .int .i64 m, .int .i64 e, .int .i64 s] rfl ?_) | (refine Lk.act_load rfl _ rfl _ rfl B1.out rfl ?_) | (refine Lk.act_load rfl _ rfl _ rfl Z2.out rfl ?_) | (refine Lk.act_load rfl _ rfl _ rfl Z3.out rfl ?_) | fail)
  intro w14 bN hb
  replace B1 := Lib.hid (B1.out.under hb LB1_Z3.out)
  replace Z2 := Lib.hid (Z2.out.under hb LZ2_Z3.out)
  replace Z3 := Lib.hid bN
  replace T := Lib.hid (T.out.under hb GZ3.out)
  replace HP := Lib.hid (HP.out.under hb GZ3.out)
  clear bN hb
  go_wp2_with (first | (refine Lk.act_load rfl _ rfl _ rfl B1.out rfl ?_) | (refine Lk.act_load rfl _ rfl _ rfl Z2.out rfl ?_) | (refine Lk.act_load rfl _ rfl _ rfl Z3.out rfl ?_) | fail)
  refine (KB.out _ T.out.bel HP.out.now).mono ?_
  rintro e w15 ⟨rfl, hb⟩
  replace T := Lib.hid (T.out.step hb)
  replace B1 := Lib.hid (B1.out.step hb)
  replace Z2 := Lib.hid (Z2.out.step hb)
  replace Z3 := Lib.hid (Z3.out.step hb)
  replace HP := Lib.hid (HP.out.step hb)
  clear hb
  go_wp2_with (first | (refine Lk.act_load rfl _ rfl _ rfl B1.out rfl ?_) | (refine Lk.act_load rfl _ rfl _ rfl Z2.out rfl ?_) | (refine Lk.act_load rfl _ rfl _ rfl Z3.out rfl ?_) | fail)
  refine (KC.out _ T.out.bel HP.out.now).mono ?_
  rintro e w16 ⟨rfl, hb⟩
  replace T := Lib.hid (T.out.step hb)
  replace B1 := Lib.hid (B1.out.step hb)
  replace Z2 := Lib.hid (Z2.out.step hb)
  replace Z3 := Lib.hid (Z3.out.step hb)
  replace HP := Lib.hid (HP.out.step hb)
  clear hb
  go_wp2_with (first | (refine Lk.act_load rfl _ rfl _ rfl B1.out rfl ?_) | (refine Lk.act_load rfl _ rfl _ rfl Z2.out rfl ?_) | (refine Lk.act_load rfl _ rfl _ rfl Z3.out rfl ?_) | fail)
  refine (KC.out _ T.out.bel HP.out.now).mono ?_
  rintro e w17 ⟨rfl, hb⟩
  replace T := Lib.hid (T.out.step hb)
  replace B1 := Lib.hid (B1.out.step hb)
  replace Z2 := Lib.hid (Z2.out.step hb)
  replace Z3 := Lib.hid (Z3.out.step hb)
  replace HP := Lib.hid (HP.out.step hb)
  clear hb
  go_wp2_with (first | (refine Lk.act_load rfl _ rfl _ rfl B1.out rfl ?_) | (refine Lk.act_load rfl _ rfl _ rfl Z2.out rfl ?_) | (refine Lk.act_load rfl _ rfl _ rfl Z3.out rfl ?_) | fail)
  refine (KC.out _ T.out.bel HP.out.now).mono ?_
  rintro e w18 ⟨rfl, hb⟩
  replace T := Lib.hid (T.out.step hb)
  replace B1 := Lib.hid (B1.out.step hb)
  replace Z2 := Lib.hid (Z2.out.step hb)
  replace Z3 := Lib.hid (Z3.out.step hb)
  replace HP := Lib.hid (HP.out.step hb)
  clear hb
  go_wp2_with (first | (refine Lk.act_load rfl _ rfl _ rfl B1.out rfl ?_) | (refine Lk.act_load rfl _ rfl _ rfl Z2.out rfl ?_) | (refine Lk.act_load rfl _ rfl _ rfl Z3.out rfl ?_) | fail)
  refine (KC.out _ T.out.bel HP.out.now).mono ?_
  rintro e w19 ⟨rfl, hb⟩
  replace T := Lib.hid (T.out.step hb)
  replace B1 := Lib.hid (B1.out.step hb)
  replace Z2 := Lib.hid (Z2.out.step hb)
  replace Z3 := Lib.hid (Z3.out.step hb)
  replace HP := Lib.hid (HP.out.step hb)
  clear hb
  go_wp2_with (first | (refine Lk.act_load rfl _ rfl _ rfl B1.out rfl ?_) | (refine Lk.act_load rfl _ rfl _ rfl Z2.out rfl ?_) | (refine Lk.act_load rfl _ rfl _ rfl Z3.out rfl ?_) | fail)
  go_ret
  exact ⟨rfl, T.out.bel⟩
set_option maxHeartbeats 4000000 in
set_option maxRecDepth 100000 in
theorem aud_bare {keyOk : Int → Int → Bool} {sgn : Int → Int → Str → Int × Int} {ver : Int → Str → Int → Int → Bool} {W : World} (P : Pk keyOk sgn ver W) (hsm : Ok W 9 #[] (.bool true))
    (au : Str) (sq : Int) (pv : Str) (kd tm : Int) (ob tg : Str) (sc : Int) (gr : Str) (to : List Str) (tx bn bd bt : Str) (ep : Int) (ws : List Wr) (n m : Int) (e s : Int) (A : Option Addr) (nA cA : Nat) (Q : Option Addr) (nQ cQ : Nat) (scope : Int) (group text : Str) (hp : Ap W W.heap.size ⟨au, sq, pv, kd, tm, ob, tg, sc, gr, to, tx, ⟨bn, bd, bt⟩, ep, ws, n, m⟩ A nA cA Q nQ cQ) (hz : Sz 281474976710656 140737488355328 ⟨au, sq, pv, kd, tm, ob, tg, sc, gr, to, tx, ⟨bn, bd, bt⟩, ep, ws, n, m⟩) (hg : group.length ≤ 281474976710656) (ht : text.length ≤ 281474976710656)
    (hT : text.length ≤ 600) (hG : group.length ≤ 100) (hf : fewB ⟨au, sq, pv, kd, tm, ob, tg, sc, gr, to, tx, ⟨bn, bd, bt⟩, ep, ws, n, m⟩ = true) (hv : valid ⟨au, sq, pv, kd, tm, ob, tg, sc, gr, to, tx, ⟨bn, bd, bt⟩, ep, ws, n, m⟩ e s = true) (hpo : posting kd = true) (hc : valid ⟨au, sq, pv, kd, tm, ob, tg, scope, group, to, tx, ⟨bn, bd, bt⟩, ep, ws, n, m⟩ e s = true) (hgn : group = []) :
    Calls Tryz.prog 8 #[vA ⟨au, sq, pv, kd, tm, ob, tg, sc, gr, to, tx, ⟨bn, bd, bt⟩, ep, ws, n, m⟩ e s A nA cA Q nQ cQ, .int .i64 scope, .string (S2.B group), .string (S2.B text)] W fun x w' => x = .returned (.bool true) ∧ Below W.heap.size W w' := by
  have KS := Lib.hid hsm
  have KF := fun w (h : Ap w w.heap.size ⟨au, sq, pv, kd, tm, ob, tg, sc, gr, to, tx, ⟨bn, bd, bt⟩, ep, ws, n, m⟩ A nA cA Q nQ cQ) => few_any ⟨au, sq, pv, kd, tm, ob, tg, sc, gr, to, tx, ⟨bn, bd, bt⟩, ep, ws, n, m⟩ e s A nA cA Q nQ cQ w h hz
  have HP := Lib.hid hp
  have T := Lib.hid (Lk.At.start W)
  have hgI : (group.length : Int) ≤ 281474976710656 := by omega
  have htI : (text.length : Int) ≤ 281474976710656 := by omega
  have b1I : ¬ (600 : Int) < (text.length : Int) := by omega
  have b2I : ¬ (100 : Int) < (group.length : Int) := by omega
  rw [hf] at KF
  replace KF := Lib.hid KF
  have hs := few_sz hf
  have hs6 := hs.mono (show 10000 ≤ 1000000 by decide) (show 70 ≤ 1000000 by decide)
  have KR := fun w hb (h : Ap w w.heap.size ⟨au, sq, pv, kd, tm, ob, tg, sc, gr, to, tx, ⟨bn, bd, bt⟩, ep, ws, n, m⟩ A nA cA Q nQ cQ) => P.right ⟨au, sq, pv, kd, tm, ob, tg, sc, gr, to, tx, ⟨bn, bd, bt⟩, ep, ws, n, m⟩ e s A nA cA Q nQ cQ w hb h hs6
  rw [hv] at KR
  replace KR := Lib.hid KR
  have KP := P.posting kd
  rw [hpo] at KP
  replace KP := Lib.hid KP
  have hgood := valid_good hv
  have hsg : sigOk e s = true := by simp only [valid, Bool.and_eq_true] at hv; exact hv.1
  have szB : Sz 1000000 1000000 ⟨au, sq, pv, kd, tm, ob, tg, 0, [], to, text, bx0, 0, ws, n, m⟩ := ⟨hs6.author, hs6.prev, hs6.object, hs6.target, by simp, by show text.length ≤ 1000000; omega, by simp [bx0], by simp [bx0], by simp [bx0], hs6.to, hs6.tos, hs6.wraps, hs6.boxes⟩
  have szC : Sz 1000000 1000000 ⟨au, sq, pv, kd, tm, ob, tg, scope, group, to, tx, ⟨bn, bd, bt⟩, ep, ws, n, m⟩ := ⟨hs6.author, hs6.prev, hs6.object, hs6.target, by show group.length ≤ 1000000; omega, hs6.text, hs6.nonce, hs6.data, hs6.tag, hs6.to, hs6.tos, hs6.wraps, hs6.boxes⟩
  have KB := fun w hb (h : Ap w w.heap.size ⟨au, sq, pv, kd, tm, ob, tg, sc, gr, to, tx, ⟨bn, bd, bt⟩, ep, ws, n, m⟩ A nA cA Q nQ cQ) => P.right ⟨au, sq, pv, kd, tm, ob, tg, 0, [], to, text, bx0, 0, ws, n, m⟩ e s A nA cA Q nQ cQ w hb (h.as rfl rfl) szB
  have KC := fun w hb (h : Ap w w.heap.size ⟨au, sq, pv, kd, tm, ob, tg, sc, gr, to, tx, ⟨bn, bd, bt⟩, ep, ws, n, m⟩ A nA cA Q nQ cQ) => P.right ⟨au, sq, pv, kd, tm, ob, tg, scope, group, to, tx, ⟨bn, bd, bt⟩, ep, ws, n, m⟩ e s A nA cA Q nQ cQ w hb (h.as rfl rfl) szC
  have KN := P.nameR group (by omega)
  have vB : valid ⟨au, sq, pv, kd, tm, ob, tg, 0, [], to, text, bx0, 0, ws, n, m⟩ e s = decide (text.length ≤ 500) := by
    unfold valid
    rw [hsg, Bool.true_and]
    exact aud_public (a := ⟨au, sq, pv, kd, tm, ob, tg, sc, gr, to, tx, ⟨bn, bd, bt⟩, ep, ws, n, m⟩) hpo hgood text
  rw [vB] at KB
  have hoth := fun (h : valid ⟨au, sq, pv, kd, tm, ob, tg, scope, group, to, tx, ⟨bn, bd, bt⟩, ep, ws, n, m⟩ e s = true) => aud_other (a := ⟨au, sq, pv, kd, tm, ob, tg, sc, gr, to, tx, ⟨bn, bd, bt⟩, ep, ws, n, m⟩) hpo hgood (sc := scope) (g := group) (valid_good h)
  obtain ⟨t5, ht5⟩ : ∃ t5, t5 = decide (text.length ≤ 500) := ⟨_, rfl⟩
  rw [← ht5] at KB
  replace KB := Lib.hid KB
  have t5I : decide ((text.length : Int) ≤ 500) = t5 := by rw [ht5]; congr 1; exact propext (by omega)
  rw [hc] at KC
  replace KC := Lib.hid KC
  obtain ⟨⟨o1a, o1b⟩, o2, o3, o4⟩ := hoth hc
  have s0 : ¬ scope < 0 := by omega
  have s3 : ¬ 3 < scope := by omega
  obtain ⟨q, hq⟩ : ∃ q : Bool, q = (sc == 0) := ⟨_, rfl⟩
  have q1 : (sc == 0) = q := hq.symm
  have q2 : (scope == 0) = q := by
    rw [hq]
    exact Bool.eq_iff_iff.2 (by rw [beq_iff_eq, beq_iff_eq]; exact o4)
  have g0 : (group == []) = true := by rw [hgn]; rfl
  have s2 : (scope == 2) = false := by
    have : ¬ scope = 2 := fun h => (o2.1 h) hgn
    simpa using this
  clear P hsm hp hz hg ht hf hv hpo hs hs6 hgood hsg szB szC vB ht5 hT hG hc hoth KN o1a o1b o2 o3 o4 hq hgn
  unfold vA
  go_enter Tryz.func8, Tryz.ntmps8
  go_wp2_with (first | fail)
  replace T := Lib.hid (T.out.alloc (.cells #[.string (S2.B au), .int .i64 sq, .string (S2.B pv), .int .i64 kd, .int .i64 tm, .string (S2.B ob), .string (S2.B tg), .int .i64 sc, .string (S2.B gr), .slice A nA cA, .string (S2.B tx), .string (S2.B bn), .string (S2.B bd), .string (S2.B bt), .int .i64 ep, .slice Q nQ cQ, .int .i64 n, .int .i64 m, .int .i64 e, .int .i64 s] 29))
  replace HP := Lib.hid (HP.out.alloc (.cells #[.string (S2.B au), .int .i64 sq, .string (S2.B pv), .int .i64 kd, .int .i64 tm, .string (S2.B ob), .string (S2.B tg), .int .i64 sc, .string (S2.B gr), .slice A nA cA, .string (S2.B tx), .string (S2.B bn), .string (S2.B bd), .string (S2.B bt), .int .i64 ep, .slice Q nQ cQ, .int .i64 n, .int .i64 m, .int .i64 e, .int .i64 s] 29))
  have B1 := Lib.hid (Lk.Bl.new W [.string (S2.B au), .int .i64 sq, .string (S2.B pv), .int .i64 kd, .int .i64 tm, .string (S2.B ob), .string (S2.B tg), .int .i64 sc, .string (S2.B gr), .slice A nA cA, .string (S2.B tx), .string (S2.B bn), .string (S2.B bd), .string (S2.B bt), .int .i64 ep, .slice Q nQ cQ, .int .i64 n, .int .i64 m, .int .i64 e, .int .i64 s] 29)
  generalize W.alloc (.cells #[.string (S2.B au), .int .i64 sq, .string (S2.B pv), .int .i64 kd, .int .i64 tm, .string (S2.B ob), .string (S2.B tg), .int .i64 sc, .string (S2.B gr), .slice A nA cA, .string (S2.B tx), .string (S2.B bn), .string (S2.B bd), .string (S2.B bt), .int .i64 ep, .slice Q nQ cQ, .int .i64 n, .int .i64 m, .int .i64 e, .int .i64 s] 29) = w1 at *
  refine (KS.out _ T.out.bel).mono ?_
  rintro e w2 ⟨rfl, hb⟩
  replace T := Lib.hid (T.out.step hb)
  replace B1 := Lib.hid (B1.out.step hb)
  replace HP := Lib.hid (HP.out.step hb)
  clear hb
  go_wp2_with (first | (refine Lk.act_load rfl _ rfl _ rfl B1.out rfl ?_) | fail)
  refine (KF.out _ HP.out.now).mono ?_
  rintro e w3 ⟨rfl, hb⟩
  replace T := Lib.hid (T.out.step hb)
  replace B1 := Lib.hid (B1.out.step hb)
  replace HP := Lib.hid (HP.out.step hb)
  clear hb
  go_wp2_with (first | (refine Lk.act_load rfl _ rfl _ rfl B1.out rfl ?_) | fail)
  refine (KR.out _ T.out.bel HP.out.now).mono ?_
  rintro e w4 ⟨rfl, hb⟩
  replace T := Lib.hid (T.out.step hb)
  replace B1 := Lib.hid (B1.out.step hb)
  replace HP := Lib.hid (HP.out.step hb)
  clear hb
  have cB1_3 := B1.out.c 3 _ rfl
  go_wp2_with (first | (refine Lk.act_load rfl _ rfl _ rfl B1.out rfl ?_) | fail)
  clear cB1_3
  refine (KP.out _ T.out.bel).mono ?_
  rintro e w5 ⟨rfl, hb⟩
  replace T := Lib.hid (T.out.step hb)
  replace B1 := Lib.hid (B1.out.step hb)
  replace HP := Lib.hid (HP.out.step hb)
  clear hb
  go_wp2_with (first | (refine Lk.act_new rfl _ _ rfl _ _ rfl rfl rfl rfl (by simp [Value.oneCell']) ?_) | (refine Lk.act_load rfl _ rfl _ rfl B1.out rfl ?_) | fail)
  intro w6 bN hb
  have LB1_Z2 := Lib.hid (show W.heap.size < w5.heap.size from B1.out.lt)
  have GZ2 := Lib.hid (show W.heap.size ≤ w5.heap.size from T.out.bel.size)
  replace T := Lib.hid (T.out.step hb)
  replace B1 := Lib.hid (B1.out.step hb)
  replace HP := Lib.hid (HP.out.step hb)
  have Z2 := Lib.hid (show Lk.Bl w6 w5.heap.size [.string (S2.B au), .int .i64 sq, .string (S2.B pv), .int .i64 kd, .int .i64 tm, .string (S2.B ob), .string (S2.B tg), .int .i64 sc, .string (S2.B gr), .slice A nA cA, .string (S2.B tx), .string (S2.B bn), .string (S2.B bd), .string (S2.B bt), .int .i64 ep, .slice Q nQ cQ, .int .i64 n, .int .i64 m, .int .i64 e, .int .i64 s] 29 from bN)
  clear bN hb
  go_wp2_with (first | (refine Lk.act_set rfl _ _ _ rfl _ 7 rfl _ rfl #[.int .i64 0] rfl Z2.out Lk.infoI (Nat.le_of_ble_eq_true rfl) (by simp [Value.oneCell']) [.string (S2.B au), .int .i64 sq, .string (S2.B pv), .int .i64 kd, .int .i64 tm, .string (S2.B ob), .string (S2.B tg), .int .i64 0, .string (S2.B gr), .slice A nA cA, .string (S2.B tx), .string (S2.B bn), .string (S2.B bd), .string (S2.B bt), .int .i64 ep, .slice Q nQ cQ, .int .i64 n, .int .i64 m, .int .i64 e, .int .i64 s] rfl ?_) | (refine Lk.act_load rfl _ rfl _ rfl B1.out rfl ?_) | (refine Lk.act_load rfl _ rfl _ rfl Z2.out rfl ?_) | fail)
  intro w7 bN hb
  replace B1 := Lib.hid (B1.out.under hb LB1_Z2.out)
  replace Z2 := Lib.hid bN
  replace T := Lib.hid (T.out.under hb GZ2.out)
  replace HP := Lib.hid (HP.out.under hb GZ2.out)
  clear bN hb
  go_wp2_with (first | (refine Lk.act_set rfl _ _ _ rfl _ 8 rfl _ rfl #[.string (S2.B [])] rfl Z2.out Lk.infoS (Nat.le_of_ble_eq_true rfl) (by simp [Value.oneCell']) [.string (S2.B au), .int .i64 sq, .string (S2.B pv), .int .i64 kd, .int .i64 tm, .string (S2.B ob), .string (S2.B tg), .int .i64 0, .string (S2.B []), .slice A nA cA, .string (S2.B tx), .string (S2.B bn), .string (S2.B bd), .string (S2.B bt), .int .i64 ep, .slice Q nQ cQ, .int .i64 n, .int .i64 m, .int .i64 e, .int .i64 s] rfl ?_) | (refine Lk.act_load rfl _ rfl _ rfl B1.out rfl ?_) | (refine Lk.act_load rfl _ rfl _ rfl Z2.out rfl ?_) | fail)
  intro w8 bN hb
  replace B1 := Lib.hid (B1.out.under hb LB1_Z2.out)
  replace Z2 := Lib.hid bN
  replace T := Lib.hid (T.out.under hb GZ2.out)
  replace HP := Lib.hid (HP.out.under hb GZ2.out)
  clear bN hb
  go_wp2_with (first | (refine Lk.act_set rfl _ _ _ rfl _ 14 rfl _ rfl #[.int .i64 0] rfl Z2.out Lk.infoI (Nat.le_of_ble_eq_true rfl) (by simp [Value.oneCell']) [.string (S2.B au), .int .i64 sq, .string (S2.B pv), .int .i64 kd, .int .i64 tm, .string (S2.B ob), .string (S2.B tg), .int .i64 0, .string (S2.B []), .slice A nA cA, .string (S2.B tx), .string (S2.B bn), .string (S2.B bd), .string (S2.B bt), .int .i64 0, .slice Q nQ cQ, .int .i64 n, .int .i64 m, .int .i64 e, .int .i64 s] rfl ?_) | (refine Lk.act_load rfl _ rfl _ rfl B1.out rfl ?_) | (refine Lk.act_load rfl _ rfl _ rfl Z2.out rfl ?_) | fail)
  intro w9 bN hb
  replace B1 := Lib.hid (B1.out.under hb LB1_Z2.out)
  replace Z2 := Lib.hid bN
  replace T := Lib.hid (T.out.under hb GZ2.out)
  replace HP := Lib.hid (HP.out.under hb GZ2.out)
  clear bN hb
  go_wp2_with (first | (refine Lk.act_set rfl _ _ _ rfl _ 10 rfl _ rfl #[.string (S2.B text)] rfl Z2.out Lk.infoS (Nat.le_of_ble_eq_true rfl) (by simp [Value.oneCell']) [.string (S2.B au), .int .i64 sq, .string (S2.B pv), .int .i64 kd, .int .i64 tm, .string (S2.B ob), .string (S2.B tg), .int .i64 0, .string (S2.B []), .slice A nA cA, .string (S2.B text), .string (S2.B bn), .string (S2.B bd), .string (S2.B bt), .int .i64 0, .slice Q nQ cQ, .int .i64 n, .int .i64 m, .int .i64 e, .int .i64 s] rfl ?_) | (refine Lk.act_load rfl _ rfl _ rfl B1.out rfl ?_) | (refine Lk.act_load rfl _ rfl _ rfl Z2.out rfl ?_) | fail)
  intro w10 bN hb
  replace B1 := Lib.hid (B1.out.under hb LB1_Z2.out)
  replace Z2 := Lib.hid bN
  replace T := Lib.hid (T.out.under hb GZ2.out)
  replace HP := Lib.hid (HP.out.under hb GZ2.out)
  clear bN hb
  go_wp2_with (first | (refine Lk.act_set rfl _ _ _ rfl _ 11 rfl _ rfl #[.string (S2.B []), .string (S2.B []), .string (S2.B [])] rfl Z2.out Lk.infoB (Nat.le_of_ble_eq_true rfl) (by simp [Value.oneCell']) [.string (S2.B au), .int .i64 sq, .string (S2.B pv), .int .i64 kd, .int .i64 tm, .string (S2.B ob), .string (S2.B tg), .int .i64 0, .string (S2.B []), .slice A nA cA, .string (S2.B text), .string (S2.B []), .string (S2.B []), .string (S2.B []), .int .i64 0, .slice Q nQ cQ, .int .i64 n, .int .i64 m, .int .i64 e, .int .i64 s] rfl ?_) | (refine Lk.act_load rfl _ rfl _ rfl B1.out rfl ?_) | (refine Lk.act_load rfl _ rfl _ rfl Z2.out rfl ?_) | fail)
  intro w11 bN hb
  replace B1 := Lib.hid (B1.out.under hb LB1_Z2.out)
  replace Z2 := Lib.hid bN
  replace T := Lib.hid (T.out.under hb GZ2.out)
  replace HP := Lib.hid (HP.out.under hb GZ2.out)
  clear bN hb
  go_wp2_with (first | (refine Lk.act_new rfl _ _ rfl _ _ rfl rfl rfl rfl (by simp [Value.oneCell']) ?_) | (refine Lk.act_load rfl _ rfl _ rfl B1.out rfl ?_) | (refine Lk.act_load rfl _ rfl _ rfl Z2.out rfl ?_) | fail)
  intro w12 bN hb
  have LB1_Z3 := Lib.hid (show W.heap.size < w11.heap.size from B1.out.lt)
  have LZ2_Z3 := Lib.hid (show w5.heap.size < w11.heap.size from Z2.out.lt)
  have GZ3 := Lib.hid (show W.heap.size ≤ w11.heap.size from T.out.bel.size)
  replace T := Lib.hid (T.out.step hb)
  replace B1 := Lib.hid (B1.out.step hb)
  replace Z2 := Lib.hid (Z2.out.step hb)
  replace HP := Lib.hid (HP.out.step hb)
  have Z3 := Lib.hid (show Lk.Bl w12 w11.heap.size [.string (S2.B au), .int .i64 sq, .string (S2.B pv), .int .i64 kd, .int .i64 tm, .string (S2.B ob), .string (S2.B tg), .int .i64 sc, .string (S2.B gr), .slice A nA cA, .string (S2.B tx), .string (S2.B bn), .string (S2.B bd), .string (S2.B bt), .int .i64 ep, .slice Q nQ cQ, .int .i64 n, .int .i64 m, .int .i64 e, .int .i64 s] 29 from bN)
  clear bN hb
  go_wp2_with (first | (refine Lk.act_set rfl _ _ _ rfl _ 7 rfl _ rfl #[.int .i64 scope] rfl Z3.out Lk.infoI (Nat.le_of_ble_eq_true rfl) (by simp [Value.oneCell']) [.string (S2.B au), .int .i64 sq, .string (S2.B pv), .int .i64 kd, .int .i64 tm, .string (S2.B ob), .string (S2.B tg), .int .i64 scope, .string (S2.B gr), .slice A nA cA, .string (S2.B tx), .string (S2.B bn), .string (S2.B bd), .string (S2.B bt), .int .i64 ep, .slice Q nQ cQ, .int .i64 n, .int .i64 m, .int .i64 e, .int .i64 s] rfl ?_) | (refine Lk.act_load rfl _ rfl _ rfl B1.out rfl ?_) | (refine Lk.act_load rfl _ rfl _ rfl Z2.out rfl ?_) | (refine Lk.act_load rfl _ rfl _ rfl Z3.out rfl ?_) | fail)
  intro w13 bN hb
  replace B1 := Lib.hid (B1.out.under hb LB1_Z3.out)
  replace Z2 := Lib.hid (Z2.out.under hb LZ2_Z3.out)
  replace Z3 := Lib.hid bN
  replace T := Lib.hid (T.out.under hb GZ3.out)
  replace HP := Lib.hid (HP.out.under hb GZ3.out)
  clear bN hb
  go_wp2_with (first | (refine Lk.act_set rfl _ _ _ rfl _ 8 rfl _ rfl #[.string (S2.B group)] rfl Z3.out Lk.infoS (Nat.le_of_ble_eq_true rfl) (by simp [Value.oneCell']) [.string (S2.B au), .int .i64 sq, .string (S2.B pv), .int .i64 kd, .int .i64 tm, .string (S2.B ob), .string (S2.B tg), .int .i64 scope, .string (S2.B group), .slice A nA cA, .string (S2.B tx), .string (S2.B bn), .string (S2.B bd), .string (S2.B bt), .int .i64 ep, .slice Q nQ cQ, .int .i64 n, .int .i64 m, .int .i64 e, .int .i64 s] rfl ?_) | (refine Lk.act_load rfl _ rfl _ rfl B1.out rfl ?_) | (refine Lk.act_load rfl _ rfl _ rfl Z2.out rfl ?_) | (refine Lk.act_load rfl _ rfl _ rfl Z3.out rfl ?_) | fail)
  intro w14 bN hb
  replace B1 := Lib.hid (B1.out.under hb LB1_Z3.out)
  replace Z2 := Lib.hid (Z2.out.under hb LZ2_Z3.out)
  replace Z3 := Lib.hid bN
  replace T := Lib.hid (T.out.under hb GZ3.out)
  replace HP := Lib.hid (HP.out.under hb GZ3.out)
  clear bN hb
  go_wp2_with (first | (refine Lk.act_load rfl _ rfl _ rfl B1.out rfl ?_) | (refine Lk.act_load rfl _ rfl _ rfl Z2.out rfl ?_) | (refine Lk.act_load rfl _ rfl _ rfl Z3.out rfl ?_) | fail)
  refine (KB.out _ T.out.bel HP.out.now).mono ?_
  rintro e w15 ⟨rfl, hb⟩
  replace T := Lib.hid (T.out.step hb)
  replace B1 := Lib.hid (B1.out.step hb)
  replace Z2 := Lib.hid (Z2.out.step hb)
  replace Z3 := Lib.hid (Z3.out.step hb)
  replace HP := Lib.hid (HP.out.step hb)
  clear hb
  go_wp2_with (first | (refine Lk.act_load rfl _ rfl _ rfl B1.out rfl ?_) | (refine Lk.act_load rfl _ rfl _ rfl Z2.out rfl ?_) | (refine Lk.act_load rfl _ rfl _ rfl Z3.out rfl ?_) | fail)
  refine (KC.out _ T.out.bel HP.out.now).mono ?_
  rintro e w16 ⟨rfl, hb⟩
  replace T := Lib.hid (T.out.step hb)
  replace B1 := Lib.hid (B1.out.step hb)
  replace Z2 := Lib.hid (Z2.out.step hb)
  replace Z3 := Lib.hid (Z3.out.step hb)
  replace HP := Lib.hid (HP.out.step hb)
  clear hb
  go_wp2_with (first | (refine Lk.act_load rfl _ rfl _ rfl B1.out rfl ?_) | (refine Lk.act_load rfl _ rfl _ rfl Z2.out rfl ?_) | (refine Lk.act_load rfl _ rfl _ rfl Z3.out rfl ?_) | fail)
  refine (KC.out _ T.out.bel HP.out.now).mono ?_
  rintro e w17 ⟨rfl, hb⟩
  replace T := Lib.hid (T.out.step hb)
  replace B1 := Lib.hid (B1.out.step hb)
  replace Z2 := Lib.hid (Z2.out.step hb)
  replace Z3 := Lib.hid (Z3.out.step hb)
  replace HP := Lib.hid (HP.out.step hb)
  clear hb
  go_wp2_with (first | (refine Lk.act_load rfl _ rfl _ rfl B1.out rfl ?_) | (refine Lk.act_load rfl _ rfl _ rfl Z2.out rfl ?_) | (refine Lk.act_load rfl _ rfl _ rfl Z3.out rfl ?_) | fail)
  refine (KC.out _ T.out.bel HP.out.now).mono ?_
  rintro e w18 ⟨rfl, hb⟩
  replace T := Lib.hid (T.out.step hb)
  replace B1 := Lib.hid (B1.out.step hb)
  replace Z2 := Lib.hid (Z2.out.step hb)
  replace Z3 := Lib.hid (Z3.out.step hb)
  replace HP := Lib.hid (HP.out.step hb)
  clear hb
  go_wp2_with (first | (refine Lk.act_load rfl _ rfl _ rfl B1.out rfl ?_) | (refine Lk.act_load rfl _ rfl _ rfl Z2.out rfl ?_) | (refine Lk.act_load rfl _ rfl _ rfl Z3.out rfl ?_) | fail)
  refine (KC.out _ T.out.bel HP.out.now).mono ?_
  rintro e w19 ⟨rfl, hb⟩
  replace T := Lib.hid (T.out.step hb)
  replace B1 := Lib.hid (B1.out.step hb)
  replace Z2 := Lib.hid (Z2.out.step hb)
  replace Z3 := Lib.hid (Z3.out.step hb)
  replace HP := Lib.hid (HP.out.step hb)
  clear hb
  have cB1_7 := B1.out.c 7 _ rfl
  go_wp2_with (first | (refine Lk.act_load rfl _ rfl _ rfl B1.out rfl ?_) | (refine Lk.act_load rfl _ rfl _ rfl Z2.out rfl ?_) | (refine Lk.act_load rfl _ rfl _ rfl Z3.out rfl ?_) | fail)
  go_ret
  exact ⟨by simp, T.out.bel⟩
set_option maxHeartbeats 4000000 in
set_option maxRecDepth 100000 in
theorem aud_named {keyOk : Int → Int → Bool} {sgn : Int → Int → Str → Int × Int} {ver : Int → Str → Int → Int → Bool} {W : World} (P : Pk keyOk sgn ver W) (hsm : Ok W 9 #[] (.bool true))
    (au : Str) (sq : Int) (pv : Str) (kd tm : Int) (ob tg : Str) (sc : Int) (gr : Str) (to : List Str) (tx bn bd bt : Str) (ep : Int) (ws : List Wr) (n m : Int) (e s : Int) (A : Option Addr) (nA cA : Nat) (Q : Option Addr) (nQ cQ : Nat) (scope : Int) (group text : Str) (hp : Ap W W.heap.size ⟨au, sq, pv, kd, tm, ob, tg, sc, gr, to, tx, ⟨bn, bd, bt⟩, ep, ws, n, m⟩ A nA cA Q nQ cQ) (hz : Sz 281474976710656 140737488355328 ⟨au, sq, pv, kd, tm, ob, tg, sc, gr, to, tx, ⟨bn, bd, bt⟩, ep, ws, n, m⟩) (hg : group.length ≤ 281474976710656) (ht : text.length ≤ 281474976710656)
    (hT : text.length ≤ 600) (hG : group.length ≤ 100) (hf : fewB ⟨au, sq, pv, kd, tm, ob, tg, sc, gr, to, tx, ⟨bn, bd, bt⟩, ep, ws, n, m⟩ = true) (hv : valid ⟨au, sq, pv, kd, tm, ob, tg, sc, gr, to, tx, ⟨bn, bd, bt⟩, ep, ws, n, m⟩ e s = true) (hpo : posting kd = true) (hc : valid ⟨au, sq, pv, kd, tm, ob, tg, scope, group, to, tx, ⟨bn, bd, bt⟩, ep, ws, n, m⟩ e s = true) (hgn : ¬ group = []) :
    Calls Tryz.prog 8 #[vA ⟨au, sq, pv, kd, tm, ob, tg, sc, gr, to, tx, ⟨bn, bd, bt⟩, ep, ws, n, m⟩ e s A nA cA Q nQ cQ, .int .i64 scope, .string (S2.B group), .string (S2.B text)] W fun x w' => x = .returned (.bool true) ∧ Below W.heap.size W w' := by
  have KS := Lib.hid hsm
  have KF := fun w (h : Ap w w.heap.size ⟨au, sq, pv, kd, tm, ob, tg, sc, gr, to, tx, ⟨bn, bd, bt⟩, ep, ws, n, m⟩ A nA cA Q nQ cQ) => few_any ⟨au, sq, pv, kd, tm, ob, tg, sc, gr, to, tx, ⟨bn, bd, bt⟩, ep, ws, n, m⟩ e s A nA cA Q nQ cQ w h hz
  have HP := Lib.hid hp
  have T := Lib.hid (Lk.At.start W)
  have hgI : (group.length : Int) ≤ 281474976710656 := by omega
  have htI : (text.length : Int) ≤ 281474976710656 := by omega
  have b1I : ¬ (600 : Int) < (text.length : Int) := by omega
  have b2I : ¬ (100 : Int) < (group.length : Int) := by omega
  rw [hf] at KF
  replace KF := Lib.hid KF
  have hs := few_sz hf
  have hs6 := hs.mono (show 10000 ≤ 1000000 by decide) (show 70 ≤ 1000000 by decide)
  have KR := fun w hb (h : Ap w w.heap.size ⟨au, sq, pv, kd, tm, ob, tg, sc, gr, to, tx, ⟨bn, bd, bt⟩, ep, ws, n, m⟩ A nA cA Q nQ cQ) => P.right ⟨au, sq, pv, kd, tm, ob, tg, sc, gr, to, tx, ⟨bn, bd, bt⟩, ep, ws, n, m⟩ e s A nA cA Q nQ cQ w hb h hs6
  rw [hv] at KR
  replace KR := Lib.hid KR
  have KP := P.posting kd
  rw [hpo] at KP
  replace KP := Lib.hid KP
  have hgood := valid_good hv
  have hsg : sigOk e s = true := by simp only [valid, Bool.and_eq_true] at hv; exact hv.1
  have szB : Sz 1000000 1000000 ⟨au, sq, pv, kd, tm, ob, tg, 0, [], to, text, bx0, 0, ws, n, m⟩ := ⟨hs6.author, hs6.prev, hs6.object, hs6.target, by simp, by show text.length ≤ 1000000; omega, by simp [bx0], by simp [bx0], by simp [bx0], hs6.to, hs6.tos, hs6.wraps, hs6.boxes⟩
  have szC : Sz 1000000 1000000 ⟨au, sq, pv, kd, tm, ob, tg, scope, group, to, tx, ⟨bn, bd, bt⟩, ep, ws, n, m⟩ := ⟨hs6.author, hs6.prev, hs6.object, hs6.target, by show group.length ≤ 1000000; omega, hs6.text, hs6.nonce, hs6.data, hs6.tag, hs6.to, hs6.tos, hs6.wraps, hs6.boxes⟩
  have KB := fun w hb (h : Ap w w.heap.size ⟨au, sq, pv, kd, tm, ob, tg, sc, gr, to, tx, ⟨bn, bd, bt⟩, ep, ws, n, m⟩ A nA cA Q nQ cQ) => P.right ⟨au, sq, pv, kd, tm, ob, tg, 0, [], to, text, bx0, 0, ws, n, m⟩ e s A nA cA Q nQ cQ w hb (h.as rfl rfl) szB
  have KC := fun w hb (h : Ap w w.heap.size ⟨au, sq, pv, kd, tm, ob, tg, sc, gr, to, tx, ⟨bn, bd, bt⟩, ep, ws, n, m⟩ A nA cA Q nQ cQ) => P.right ⟨au, sq, pv, kd, tm, ob, tg, scope, group, to, tx, ⟨bn, bd, bt⟩, ep, ws, n, m⟩ e s A nA cA Q nQ cQ w hb (h.as rfl rfl) szC
  have KN := P.nameR group (by omega)
  have vB : valid ⟨au, sq, pv, kd, tm, ob, tg, 0, [], to, text, bx0, 0, ws, n, m⟩ e s = decide (text.length ≤ 500) := by
    unfold valid
    rw [hsg, Bool.true_and]
    exact aud_public (a := ⟨au, sq, pv, kd, tm, ob, tg, sc, gr, to, tx, ⟨bn, bd, bt⟩, ep, ws, n, m⟩) hpo hgood text
  rw [vB] at KB
  have hoth := fun (h : valid ⟨au, sq, pv, kd, tm, ob, tg, scope, group, to, tx, ⟨bn, bd, bt⟩, ep, ws, n, m⟩ e s = true) => aud_other (a := ⟨au, sq, pv, kd, tm, ob, tg, sc, gr, to, tx, ⟨bn, bd, bt⟩, ep, ws, n, m⟩) hpo hgood (sc := scope) (g := group) (valid_good h)
  obtain ⟨t5, ht5⟩ : ∃ t5, t5 = decide (text.length ≤ 500) := ⟨_, rfl⟩
  rw [← ht5] at KB
  replace KB := Lib.hid KB
  have t5I : decide ((text.length : Int) ≤ 500) = t5 := by rw [ht5]; congr 1; exact propext (by omega)
  rw [hc] at KC
  replace KC := Lib.hid KC
  obtain ⟨⟨o1a, o1b⟩, o2, o3, o4⟩ := hoth hc
  have s0 : ¬ scope < 0 := by omega
  have s3 : ¬ 3 < scope := by omega
  obtain ⟨q, hq⟩ : ∃ q : Bool, q = (sc == 0) := ⟨_, rfl⟩
  have q1 : (sc == 0) = q := hq.symm
  have q2 : (scope == 0) = q := by
    rw [hq]
    exact Bool.eq_iff_iff.2 (by rw [beq_iff_eq, beq_iff_eq]; exact o4)
  have g0 : (group == []) = false := by
    cases group with
    | nil => exact absurd rfl hgn
    | cons => rfl
  have s2 : (scope == 2) = true := by rw [o2.2 hgn]; rfl
  rw [o3 hgn] at KN
  replace KN := Lib.hid KN
  clear P hsm hp hz hg ht hf hv hpo hs hs6 hgood hsg szB szC vB ht5 hT hG hc hoth o1a o1b o2 o3 o4 hq hgn
  unfold vA
  go_enter Tryz.func8, Tryz.ntmps8
  go_wp2_with (first | fail)
  replace T := Lib.hid (T.out.alloc (.cells #[.string (S2.B au), .int .i64 sq, .string (S2.B pv), .int .i64 kd, .int .i64 tm, .string (S2.B ob), .string (S2.B tg), .int .i64 sc, .string (S2.B gr), .slice A nA cA, .string (S2.B tx), .string (S2.B bn), .string (S2.B bd), .string (S2.B bt), .int .i64 ep, .slice Q nQ cQ, .int .i64 n, .int .i64 m, .int .i64 e, .int .i64 s] 29))
  replace HP := Lib.hid (HP.out.alloc (.cells #[.string (S2.B au), .int .i64 sq, .string (S2.B pv), .int .i64 kd, .int .i64 tm, .string (S2.B ob), .string (S2.B tg), .int .i64 sc, .string (S2.B gr), .slice A nA cA, .string (S2.B tx), .string (S2.B bn), .string (S2.B bd), .string (S2.B bt), .int .i64 ep, .slice Q nQ cQ, .int .i64 n, .int .i64 m, .int .i64 e, .int .i64 s] 29))
  have B1 := Lib.hid (Lk.Bl.new W [.string (S2.B au), .int .i64 sq, .string (S2.B pv), .int .i64 kd, .int .i64 tm, .string (S2.B ob), .string (S2.B tg), .int .i64 sc, .string (S2.B gr), .slice A nA cA, .string (S2.B tx), .string (S2.B bn), .string (S2.B bd), .string (S2.B bt), .int .i64 ep, .slice Q nQ cQ, .int .i64 n, .int .i64 m, .int .i64 e, .int .i64 s] 29)
  generalize W.alloc (.cells #[.string (S2.B au), .int .i64 sq, .string (S2.B pv), .int .i64 kd, .int .i64 tm, .string (S2.B ob), .string (S2.B tg), .int .i64 sc, .string (S2.B gr), .slice A nA cA, .string (S2.B tx), .string (S2.B bn), .string (S2.B bd), .string (S2.B bt), .int .i64 ep, .slice Q nQ cQ, .int .i64 n, .int .i64 m, .int .i64 e, .int .i64 s] 29) = w1 at *
  refine (KS.out _ T.out.bel).mono ?_
  rintro e w2 ⟨rfl, hb⟩
  replace T := Lib.hid (T.out.step hb)
  replace B1 := Lib.hid (B1.out.step hb)
  replace HP := Lib.hid (HP.out.step hb)
  clear hb
  go_wp2_with (first | (refine Lk.act_load rfl _ rfl _ rfl B1.out rfl ?_) | fail)
  refine (KF.out _ HP.out.now).mono ?_
  rintro e w3 ⟨rfl, hb⟩
  replace T := Lib.hid (T.out.step hb)
  replace B1 := Lib.hid (B1.out.step hb)
  replace HP := Lib.hid (HP.out.step hb)
  clear hb
  go_wp2_with (first | (refine Lk.act_load rfl _ rfl _ rfl B1.out rfl ?_) | fail)
  refine (KR.out _ T.out.bel HP.out.now).mono ?_
  rintro e w4 ⟨rfl, hb⟩
  replace T := Lib.hid (T.out.step hb)
  replace B1 := Lib.hid (B1.out.step hb)
  replace HP := Lib.hid (HP.out.step hb)
  clear hb
  have cB1_3 := B1.out.c 3 _ rfl
  go_wp2_with (first | (refine Lk.act_load rfl _ rfl _ rfl B1.out rfl ?_) | fail)
  clear cB1_3
  refine (KP.out _ T.out.bel).mono ?_
  rintro e w5 ⟨rfl, hb⟩
  replace T := Lib.hid (T.out.step hb)
  replace B1 := Lib.hid (B1.out.step hb)
  replace HP := Lib.hid (HP.out.step hb)
  clear hb
  go_wp2_with (first | (refine Lk.act_new rfl _ _ rfl _ _ rfl rfl rfl rfl (by simp [Value.oneCell']) ?_) | (refine Lk.act_load rfl _ rfl _ rfl B1.out rfl ?_) | fail)
  intro w6 bN hb
  have LB1_Z2 := Lib.hid (show W.heap.size < w5.heap.size from B1.out.lt)
  have GZ2 := Lib.hid (show W.heap.size ≤ w5.heap.size from T.out.bel.size)
  replace T := Lib.hid (T.out.step hb)
  replace B1 := Lib.hid (B1.out.step hb)
  replace HP := Lib.hid (HP.out.step hb)
  have Z2 := Lib.hid (show Lk.Bl w6 w5.heap.size [.string (S2.B au), .int .i64 sq, .string (S2.B pv), .int .i64 kd, .int .i64 tm, .string (S2.B ob), .string (S2.B tg), .int .i64 sc, .string (S2.B gr), .slice A nA cA, .string (S2.B tx), .string (S2.B bn), .string (S2.B bd), .string (S2.B bt), .int .i64 ep, .slice Q nQ cQ, .int .i64 n, .int .i64 m, .int .i64 e, .int .i64 s] 29 from bN)
  clear bN hb
  go_wp2_with (first | (refine Lk.act_set rfl _ _ _ rfl _ 7 rfl _ rfl #[.int .i64 0] rfl Z2.out Lk.infoI (Nat.le_of_ble_eq_true rfl) (by simp [Value.oneCell']) [.string (S2.B au), .int .i64 sq, .string (S2.B pv), .int .i64 kd, .int .i64 tm, .string (S2.B ob), .string (S2.B tg), .int .i64 0, .string (S2.B gr), .slice A nA cA, .string (S2.B tx), .string (S2.B bn), .string (S2.B bd), .string (S2.B bt), .int .i64 ep, .slice Q nQ cQ, .int .i64 n, .int .i64 m, .int .i64 e, .int .i64 s] rfl ?_) | (refine Lk.act_load rfl _ rfl _ rfl B1.out rfl ?_) | (refine Lk.act_load rfl _ rfl _ rfl Z2.out rfl ?_) | fail)
  intro w7 bN hb
  replace B1 := Lib.hid (B1.out.under hb LB1_Z2.out)
  replace Z2 := Lib.hid bN
  replace T := Lib.hid (T.out.under hb GZ2.out)
  replace HP := Lib.hid (HP.out.under hb GZ2.out)
  clear bN hb
  go_wp2_with (first | (refine Lk.act_set rfl _ _ _ rfl _ 8 rfl _ rfl #[.string (S2.B [])] rfl Z2.out Lk.infoS (Nat.le_of_ble_eq_true rfl) (by simp [Value.oneCell']) [.string (S2.B au), .int .i64 sq, .string (S2.B pv), .int .i64 kd, .int .i64 tm, .string (S2.B ob), .string (S2.B tg), .int .i64 0, .string (S2.B []), .slice A nA cA, .string (S2.B tx), .string (S2.B bn), .string (S2.B bd), .string (S2.B bt), .int .i64 ep, .slice Q nQ cQ, .int .i64 n, .int .i64 m, .int .i64 e, .int .i64 s] rfl ?_) | (refine Lk.act_load rfl _ rfl _ rfl B1.out rfl ?_) | (refine Lk.act_load rfl _ rfl _ rfl Z2.out rfl ?_) | fail)
  intro w8 bN hb
  replace B1 := Lib.hid (B1.out.under hb LB1_Z2.out)
  replace Z2 := Lib.hid bN
  replace T := Lib.hid (T.out.under hb GZ2.out)
  replace HP := Lib.hid (HP.out.under hb GZ2.out)
  clear bN hb
  go_wp2_with (first | (refine Lk.act_set rfl _ _ _ rfl _ 14 rfl _ rfl #[.int .i64 0] rfl Z2.out Lk.infoI (Nat.le_of_ble_eq_true rfl) (by simp [Value.oneCell']) [.string (S2.B au), .int .i64 sq, .string (S2.B pv), .int .i64 kd, .int .i64 tm, .string (S2.B ob), .string (S2.B tg), .int .i64 0, .string (S2.B []), .slice A nA cA, .string (S2.B tx), .string (S2.B bn), .string (S2.B bd), .string (S2.B bt), .int .i64 0, .slice Q nQ cQ, .int .i64 n, .int .i64 m, .int .i64 e, .int .i64 s] rfl ?_) | (refine Lk.act_load rfl _ rfl _ rfl B1.out rfl ?_) | (refine Lk.act_load rfl _ rfl _ rfl Z2.out rfl ?_) | fail)
  intro w9 bN hb
  replace B1 := Lib.hid (B1.out.under hb LB1_Z2.out)
  replace Z2 := Lib.hid bN
  replace T := Lib.hid (T.out.under hb GZ2.out)
  replace HP := Lib.hid (HP.out.under hb GZ2.out)
  clear bN hb
  go_wp2_with (first | (refine Lk.act_set rfl _ _ _ rfl _ 10 rfl _ rfl #[.string (S2.B text)] rfl Z2.out Lk.infoS (Nat.le_of_ble_eq_true rfl) (by simp [Value.oneCell']) [.string (S2.B au), .int .i64 sq, .string (S2.B pv), .int .i64 kd, .int .i64 tm, .string (S2.B ob), .string (S2.B tg), .int .i64 0, .string (S2.B []), .slice A nA cA, .string (S2.B text), .string (S2.B bn), .string (S2.B bd), .string (S2.B bt), .int .i64 0, .slice Q nQ cQ, .int .i64 n, .int .i64 m, .int .i64 e, .int .i64 s] rfl ?_) | (refine Lk.act_load rfl _ rfl _ rfl B1.out rfl ?_) | (refine Lk.act_load rfl _ rfl _ rfl Z2.out rfl ?_) | fail)
  intro w10 bN hb
  replace B1 := Lib.hid (B1.out.under hb LB1_Z2.out)
  replace Z2 := Lib.hid bN
  replace T := Lib.hid (T.out.under hb GZ2.out)
  replace HP := Lib.hid (HP.out.under hb GZ2.out)
  clear bN hb
  go_wp2_with (first | (refine Lk.act_set rfl _ _ _ rfl _ 11 rfl _ rfl #[.string (S2.B []), .string (S2.B []), .string (S2.B [])] rfl Z2.out Lk.infoB (Nat.le_of_ble_eq_true rfl) (by simp [Value.oneCell']) [.string (S2.B au), .int .i64 sq, .string (S2.B pv), .int .i64 kd, .int .i64 tm, .string (S2.B ob), .string (S2.B tg), .int .i64 0, .string (S2.B []), .slice A nA cA, .string (S2.B text), .string (S2.B []), .string (S2.B []), .string (S2.B []), .int .i64 0, .slice Q nQ cQ, .int .i64 n, .int .i64 m, .int .i64 e, .int .i64 s] rfl ?_) | (refine Lk.act_load rfl _ rfl _ rfl B1.out rfl ?_) | (refine Lk.act_load rfl _ rfl _ rfl Z2.out rfl ?_) | fail)
  intro w11 bN hb
  replace B1 := Lib.hid (B1.out.under hb LB1_Z2.out)
  replace Z2 := Lib.hid bN
  replace T := Lib.hid (T.out.under hb GZ2.out)
  replace HP := Lib.hid (HP.out.under hb GZ2.out)
  clear bN hb
  go_wp2_with (first | (refine Lk.act_new rfl _ _ rfl _ _ rfl rfl rfl rfl (by simp [Value.oneCell']) ?_) | (refine Lk.act_load rfl _ rfl _ rfl B1.out rfl ?_) | (refine Lk.act_load rfl _ rfl _ rfl Z2.out rfl ?_) | fail)
  intro w12 bN hb
  have LB1_Z3 := Lib.hid (show W.heap.size < w11.heap.size from B1.out.lt)
  have LZ2_Z3 := Lib.hid (show w5.heap.size < w11.heap.size from Z2.out.lt)
  have GZ3 := Lib.hid (show W.heap.size ≤ w11.heap.size from T.out.bel.size)
  replace T := Lib.hid (T.out.step hb)
  replace B1 := Lib.hid (B1.out.step hb)
  replace Z2 := Lib.hid (Z2.out.step hb)
  replace HP := Lib.hid (HP.out.step hb)
  have Z3 := Lib.hid (show Lk.Bl w12 w11.heap.size [.string (S2.B au), .int .i64 sq, .string (S2.B pv), .int .i64 kd, .int .i64 tm, .string (S2.B ob), .string (S2.B tg), .int .i64 sc, .string (S2.B gr), .slice A nA cA, .string (S2.B tx), .string (S2.B bn), .string (S2.B bd), .string (S2.B bt), .int .i64 ep, .slice Q nQ cQ, .int .i64 n, .int .i64 m, .int .i64 e, .int .i64 s] 29 from bN)
  clear bN hb
  go_wp2_with (first | (refine Lk.act_set rfl _ _ _ rfl _ 7 rfl _ rfl #[.int .i64 scope] rfl Z3.out Lk.infoI (Nat.le_of_ble_eq_true rfl) (by simp [Value.oneCell']) [.string (S2.B au), .int .i64 sq, .string (S2.B pv), .int .i64 kd, .int .i64 tm, .string (S2.B ob), .string (S2.B tg), .int .i64 scope, .string (S2.B gr), .slice A nA cA, .string (S2.B tx), .string (S2.B bn), .string (S2.B bd), .string (S2.B bt), .int .i64 ep, .slice Q nQ cQ, .int .i64 n, .int .i64 m, .int .i64 e, .int .i64 s] rfl ?_) | (refine Lk.act_load rfl _ rfl _ rfl B1.out rfl ?_) | (refine Lk.act_load rfl _ rfl _ rfl Z2.out rfl ?_) | (refine Lk.act_load rfl _ rfl _ rfl Z3.out rfl ?_) | fail)
  intro w13 bN hb
  replace B1 := Lib.hid (B1.out.under hb LB1_Z3.out)
  replace Z2 := Lib.hid (Z2.out.under hb LZ2_Z3.out)
  replace Z3 := Lib.hid bN
  replace T := Lib.hid (T.out.under hb GZ3.out)
  replace HP := Lib.hid (HP.out.under hb GZ3.out)
  clear bN hb
  go_wp2_with (first | (refine Lk.act_set rfl _ _ _ rfl _ 8 rfl _ rfl #[.string (S2.B group)] rfl Z3.out Lk.infoS (Nat.le_of_ble_eq_true rfl) (by simp [Value.oneCell']) [.string (S2.B au), .int .i64 sq, .string (S2.B pv), .int .i64 kd, .int .i64 tm, .string (S2.B ob), .string (S2.B tg), .int .i64 scope, .string (S2.B group), .slice A nA cA, .string (S2.B tx), .string (S2.B bn), .string (S2.B bd), .string (S2.B bt), .int .i64 ep, .slice Q nQ cQ, .int .i64 n, .int .i64 m, .int .i64 e, .int .i64 s] rfl ?_) | (refine Lk.act_load rfl _ rfl _ rfl B1.out rfl ?_) | (refine Lk.act_load rfl _ rfl _ rfl Z2.out rfl ?_) | (refine Lk.act_load rfl _ rfl _ rfl Z3.out rfl ?_) | fail)
  intro w14 bN hb
  replace B1 := Lib.hid (B1.out.under hb LB1_Z3.out)
  replace Z2 := Lib.hid (Z2.out.under hb LZ2_Z3.out)
  replace Z3 := Lib.hid bN
  replace T := Lib.hid (T.out.under hb GZ3.out)
  replace HP := Lib.hid (HP.out.under hb GZ3.out)
  clear bN hb
  go_wp2_with (first | (refine Lk.act_load rfl _ rfl _ rfl B1.out rfl ?_) | (refine Lk.act_load rfl _ rfl _ rfl Z2.out rfl ?_) | (refine Lk.act_load rfl _ rfl _ rfl Z3.out rfl ?_) | fail)
  refine (KB.out _ T.out.bel HP.out.now).mono ?_
  rintro e w15 ⟨rfl, hb⟩
  replace T := Lib.hid (T.out.step hb)
  replace B1 := Lib.hid (B1.out.step hb)
  replace Z2 := Lib.hid (Z2.out.step hb)
  replace Z3 := Lib.hid (Z3.out.step hb)
  replace HP := Lib.hid (HP.out.step hb)
  clear hb
  go_wp2_with (first | (refine Lk.act_load rfl _ rfl _ rfl B1.out rfl ?_) | (refine Lk.act_load rfl _ rfl _ rfl Z2.out rfl ?_) | (refine Lk.act_load rfl _ rfl _ rfl Z3.out rfl ?_) | fail)
  refine (KC.out _ T.out.bel HP.out.now).mono ?_
  rintro e w16 ⟨rfl, hb⟩
  replace T := Lib.hid (T.out.step hb)
  replace B1 := Lib.hid (B1.out.step hb)
  replace Z2 := Lib.hid (Z2.out.step hb)
  replace Z3 := Lib.hid (Z3.out.step hb)
  replace HP := Lib.hid (HP.out.step hb)
  clear hb
  go_wp2_with (first | (refine Lk.act_load rfl _ rfl _ rfl B1.out rfl ?_) | (refine Lk.act_load rfl _ rfl _ rfl Z2.out rfl ?_) | (refine Lk.act_load rfl _ rfl _ rfl Z3.out rfl ?_) | fail)
  refine (KC.out _ T.out.bel HP.out.now).mono ?_
  rintro e w17 ⟨rfl, hb⟩
  replace T := Lib.hid (T.out.step hb)
  replace B1 := Lib.hid (B1.out.step hb)
  replace Z2 := Lib.hid (Z2.out.step hb)
  replace Z3 := Lib.hid (Z3.out.step hb)
  replace HP := Lib.hid (HP.out.step hb)
  clear hb
  go_wp2_with (first | (refine Lk.act_load rfl _ rfl _ rfl B1.out rfl ?_) | (refine Lk.act_load rfl _ rfl _ rfl Z2.out rfl ?_) | (refine Lk.act_load rfl _ rfl _ rfl Z3.out rfl ?_) | fail)
  refine (KC.out _ T.out.bel HP.out.now).mono ?_
  rintro e w18 ⟨rfl, hb⟩
  replace T := Lib.hid (T.out.step hb)
  replace B1 := Lib.hid (B1.out.step hb)
  replace Z2 := Lib.hid (Z2.out.step hb)
  replace Z3 := Lib.hid (Z3.out.step hb)
  replace HP := Lib.hid (HP.out.step hb)
  clear hb
  go_wp2_with (first | (refine Lk.act_load rfl _ rfl _ rfl B1.out rfl ?_) | (refine Lk.act_load rfl _ rfl _ rfl Z2.out rfl ?_) | (refine Lk.act_load rfl _ rfl _ rfl Z3.out rfl ?_) | fail)
  refine (KN.out _ T.out.bel).mono ?_
  rintro e w19 ⟨rfl, hb⟩
  replace T := Lib.hid (T.out.step hb)
  replace B1 := Lib.hid (B1.out.step hb)
  replace Z2 := Lib.hid (Z2.out.step hb)
  replace Z3 := Lib.hid (Z3.out.step hb)
  replace HP := Lib.hid (HP.out.step hb)
  clear hb
  go_wp2_with (first | (refine Lk.act_load rfl _ rfl _ rfl B1.out rfl ?_) | (refine Lk.act_load rfl _ rfl _ rfl Z2.out rfl ?_) | (refine Lk.act_load rfl _ rfl _ rfl Z3.out rfl ?_) | fail)
  refine (KC.out _ T.out.bel HP.out.now).mono ?_
  rintro e w20 ⟨rfl, hb⟩
  replace T := Lib.hid (T.out.step hb)
  replace B1 := Lib.hid (B1.out.step hb)
  replace Z2 := Lib.hid (Z2.out.step hb)
  replace Z3 := Lib.hid (Z3.out.step hb)
  replace HP := Lib.hid (HP.out.step hb)
  clear hb
  have cB1_7 := B1.out.c 7 _ rfl
  go_wp2_with (first | (refine Lk.act_load rfl _ rfl _ rfl B1.out rfl ?_) | (refine Lk.act_load rfl _ rfl _ rfl Z2.out rfl ?_) | (refine Lk.act_load rfl _ rfl _ rfl Z3.out rfl ?_) | fail)
  go_ret
  exact ⟨by simp, T.out.bel⟩
theorem audience_walk {keyOk : Int → Int → Bool} {sgn : Int → Int → Str → Int × Int} {ver : Int → Str → Int → Int → Bool} {W : World} (P : Pk keyOk sgn ver W) (hsm : Ok W 9 #[] (.bool true))
    (a : Ac) (e s : Int) (A : Option Addr) (nA cA : Nat) (Q : Option Addr) (nQ cQ : Nat) (scope : Int) (group text : Str) (hp : Ap W W.heap.size a A nA cA Q nQ cQ) (hz : Sz 281474976710656 140737488355328 a) (hg : group.length ≤ 281474976710656) (ht : text.length ≤ 281474976710656) :
    Calls Tryz.prog 8 #[vA a e s A nA cA Q nQ cQ, .int .i64 scope, .string (S2.B group), .string (S2.B text)] W fun x w' => x = .returned (.bool true) ∧ Below W.heap.size W w' := by
  obtain ⟨au, sq, pv, kd, tm, ob, tg, sc, gr, to, tx, ⟨bn, bd, bt⟩, ep, ws, n, m⟩ := a
  by_cases h : text.length ≤ 600 ∧ group.length ≤ 100 ∧ fewB ⟨au, sq, pv, kd, tm, ob, tg, sc, gr, to, tx, ⟨bn, bd, bt⟩, ep, ws, n, m⟩ = true ∧ valid ⟨au, sq, pv, kd, tm, ob, tg, sc, gr, to, tx, ⟨bn, bd, bt⟩, ep, ws, n, m⟩ e s = true ∧ posting kd = true
  · obtain ⟨h1, h2, h3, h4, h5⟩ := h
    cases hc : valid ⟨au, sq, pv, kd, tm, ob, tg, scope, group, to, tx, ⟨bn, bd, bt⟩, ep, ws, n, m⟩ e s with
    | false => exact aud_no P hsm au sq pv kd tm ob tg sc gr to tx bn bd bt ep ws n m e s A nA cA Q nQ cQ scope group text hp hz hg ht h1 h2 h3 h4 h5 hc
    | true =>
      by_cases hgn : group = []
      · exact aud_bare P hsm au sq pv kd tm ob tg sc gr to tx bn bd bt ep ws n m e s A nA cA Q nQ cQ scope group text hp hz hg ht h1 h2 h3 h4 h5 hc hgn
      · exact aud_named P hsm au sq pv kd tm ob tg sc gr to tx bn bd bt ep ws n m e s A nA cA Q nQ cQ scope group text hp hz hg ht h1 h2 h3 h4 h5 hc hgn
  · exact aud_early P hsm au sq pv kd tm ob tg sc gr to tx bn bd bt ep ws n m e s A nA cA Q nQ cQ scope group text hp hz hg ht h
end Ax
end Go.Proofs.YtojbicpchjiplaaGreatDoor
