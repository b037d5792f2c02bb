/-
  Layer 12: small' walk, against the package's contracts.
-/
import Derived.Test.YtojbicpchjiplaaGreatDoorActPv
namespace Go.Proofs.YtojbicpchjiplaaGreatDoor
open Go.RowKit
namespace Ax
open S11.Idt (Str isId isName ids)
attribute [local go_sem] S2.B_size S2.B_list S2.B_app S2.B_take litE
theorem Pk.at {keyOk : Int → Int → Bool} {sgn : Int → Int → Str → Int × Int} {ver : Int → Str → Int → Int → Bool} {W w0 : World} (P : Pk keyOk sgn ver W) (h0 : Below W.heap.size W w0) : Pk keyOk sgn ver w0 where
  sg := P.sg
  right := fun a e s A nA cA Q nQ cQ w hb => P.right a e s A nA cA Q nQ cQ w (h0.trans (hb.mono h0.size))
  posting := fun k w hb => P.posting k w (h0.trans (hb.mono h0.size))
  core := fun a e s A nA cA Q nQ cQ w hb => P.core a e s A nA cA Q nQ cQ w (h0.trans (hb.mono h0.size))
  bytes := fun a e s A nA cA Q nQ cQ w hb => P.bytes a e s A nA cA Q nQ cQ w (h0.trans (hb.mono h0.size))
  read := fun t a e s ok hr ht w hb => P.read t a e s ok hr ht w (h0.trans (hb.mono h0.size))
  sign := fun k p a e s A nA cA Q nQ cQ w hk hp hb => P.sign k p a e s A nA cA Q nQ cQ w hk hp (h0.trans (hb.mono h0.size))
  verify := fun p a e s A nA cA Q nQ cQ w hp hb => P.verify p a e s A nA cA Q nQ cQ w hp (h0.trans (hb.mono h0.size))
  same := fun a b e s e' s' A nA cA Q nQ cQ A' nA' cA' Q' nQ' cQ' r w hb => P.same a b e s e' s' A nA cA Q nQ cQ A' nA' cA' Q' nQ' cQ' r w (h0.trans (hb.mono h0.size))
  keyR := fun k p hk hp w hb => P.keyR k p hk hp w (h0.trans (hb.mono h0.size))
  verR := fun p m e s hp hm hs w hb => P.verR p m e s hp hm hs w (h0.trans (hb.mono h0.size))
  idR := fun s hs w hb => P.idR s hs w (h0.trans (hb.mono h0.size))
  nameR := fun s hs w hb => P.nameR s hs w (h0.trans (hb.mono h0.size))
  idsR := fun A l n c w hb => P.idsR A l n c w (h0.trans (hb.mono h0.size))
def idS : Str := [48, 49, 50, 51, 52, 53, 54, 55, 56, 57, 97, 98, 99, 100, 101, 102]
def dgS : Str := idS ++ idS
def aA : Ac := { ac0 with author := idS, text := [97, 108, 105, 99, 101], n := 37 }
def aD : Ac := { ac0 with author := idS, seq := 1, prev := dgS, kind := 1, text := [104, 101, 108, 108, 111] }
theorem aA_ok : good aA = true := by decide +kernel
theorem aB_no : good { aA with m := 20 } = false := by decide +kernel
theorem aC_no : good { aA with object := dgS } = false := by decide +kernel
theorem aD_ok : good aD = true := by decide +kernel
theorem aE_no : good { aD with scope := 2 } = false := by decide +kernel
theorem sz_of {a : Ac} (h : a.author.length ≤ 100 ∧ a.prev.length ≤ 100 ∧ a.object.length ≤ 100 ∧ a.target.length ≤ 100 ∧ a.group.length ≤ 100 ∧ a.text.length ≤ 100 ∧ a.body.nonce.length ≤ 100 ∧ a.body.data.length ≤ 100 ∧ a.body.tag.length ≤ 100) (h1 : a.to = []) (h2 : a.wraps = []) : Sz 1000000 1000000 a := by
  obtain ⟨x1, x2, x3, x4, x5, x6, x7, x8, x9⟩ := h
  exact ⟨by omega, by omega, by omega, by omega, by omega, by omega, by omega, by omega, by omega, by rw [h1]; simp, by rw [h1]; simp, by rw [h2]; simp, by rw [h2]; simp⟩
set_option maxHeartbeats 4000000 in
set_option maxRecDepth 100000 in
theorem small0 {keyOk : Int → Int → Bool} {sgn : Int → Int → Str → Int × Int} {ver : Int → Str → Int → Int → Bool} {W : World} (P : Pk keyOk sgn ver W) : Calls Tryz.prog 9 #[] W fun x w' => x = .returned (.bool true) ∧ Below W.heap.size W w' := by
  have T := Lib.hid (Lk.At.start W)
  obtain ⟨qa, hqa⟩ : ∃ x, x = cellsA aA 0 0 none 0 0 none 0 0 := ⟨_, rfl⟩
  have Hqa := Lib.hid hqa
  have Vqa := Lib.hid (show Av W 0 qa aA 0 0 from by rw [hqa]; exact Av.arg ⟨rfl, Nat.le_refl _, .inl rfl, rfl, Nat.le_refl _, .inl rfl, Nat.zero_le _⟩)
  clear hqa
  obtain ⟨qd, hqd⟩ : ∃ x, x = cellsA aD 0 0 none 0 0 none 0 0 := ⟨_, rfl⟩
  have Hqd := Lib.hid hqd
  have Vqd := Lib.hid (show Av W 0 qd aD 0 0 from by rw [hqd]; exact Av.arg ⟨rfl, Nat.le_refl _, .inl rfl, rfl, Nat.le_refl _, .inl rfl, Nat.zero_le _⟩)
  clear hqd
  have szA : Sz 1000000 1000000 aA := sz_of (by decide) rfl rfl
  have szB : Sz 1000000 1000000 { aA with m := 20 } := sz_of (by decide) rfl rfl
  have szC : Sz 1000000 1000000 { aA with object := dgS } := sz_of (by decide) rfl rfl
  have szD : Sz 1000000 1000000 aD := sz_of (by decide) rfl rfl
  have szE : Sz 1000000 1000000 { aD with scope := 2 } := sz_of (by decide) rfl rfl
  have hk1 : keyOk 1 37 = true := P.sg.one
  have hsg : signed keyOk sgn 1 37 aA = (aA, sgn 1 37 (coreB aA)) := if_pos ⟨hk1, aA_ok⟩
  have hrg := P.sg.range 1 37 (coreB aA) hk1
  have hho := P.sg.holds 1 37 (coreB aA) hk1
  have KG := fun (w : World) (b0 : Nat) (c0 : List Value) (hb : Below W.heap.size W w) (h0 : Av w b0 c0 aA 0 0) => P.signC (k := 1) (p := 37) (by decide) (by decide) hb h0 szA
  rw [hsg] at KG
  obtain ⟨⟨E, G⟩, hEG⟩ : ∃ x, x = sgn 1 37 (coreB aA) := ⟨_, rfl⟩
  rw [← hEG] at hrg hho KG
  replace KG := Lib.hid KG
  have hvx : valid aA E G = true := by simp only [valid, Bool.and_eq_true]; exact ⟨hrg, aA_ok⟩
  have hbl := bytes_le hvx
  have KBy := fun (w : World) (b0 : Nat) (c0 : List Value) (hb : Below W.heap.size W w) (h0 : Av w b0 c0 aA E G) => P.bytesC hb h0 szA
  rw [show bytes aA E G = bytesB aA E G from if_pos hvx] at KBy
  replace KBy := Lib.hid KBy
  have KRd := Lib.hid (fun (w : World) (hb : Below W.heap.size W w) => P.readC (read_back hvx) (show (bytesB aA E G).length ≤ 1000000 by omega) hb)
  have KA := fun (w : World) (b0 : Nat) (c0 : List Value) (hb : Below W.heap.size W w) (h0 : Av w b0 c0 aA 0 0) => P.rightC hb h0 szA
  rw [show valid aA 0 0 = true by unfold valid; rw [aA_ok]; rfl] at KA
  replace KA := Lib.hid KA
  have KB := fun (w : World) (b0 : Nat) (c0 : List Value) (hb : Below W.heap.size W w) (h0 : Av w b0 c0 { aA with m := 20 } 0 0) => P.rightC hb h0 szB
  rw [show valid { aA with m := 20 } 0 0 = false by unfold valid; rw [aB_no]; rfl] at KB
  replace KB := Lib.hid KB
  have KC := fun (w : World) (b0 : Nat) (c0 : List Value) (hb : Below W.heap.size W w) (h0 : Av w b0 c0 { aA with object := dgS } 0 0) => P.rightC hb h0 szC
  rw [show valid { aA with object := dgS } 0 0 = false by unfold valid; rw [aC_no]; rfl] at KC
  replace KC := Lib.hid KC
  have KD := fun (w : World) (b0 : Nat) (c0 : List Value) (hb : Below W.heap.size W w) (h0 : Av w b0 c0 aD 0 0) => P.rightC hb h0 szD
  rw [show valid aD 0 0 = true by unfold valid; rw [aD_ok]; rfl] at KD
  replace KD := Lib.hid KD
  have KE := fun (w : World) (b0 : Nat) (c0 : List Value) (hb : Below W.heap.size W w) (h0 : Av w b0 c0 { aD with scope := 2 } 0 0) => P.rightC hb h0 szE
  rw [show valid { aD with scope := 2 } 0 0 = false by unfold valid; rw [aE_no]; rfl] at KE
  replace KE := Lib.hid KE
  have KP1 := Lib.hid (show Ok W 20 #[.int .i64 1] (.bool true) from P.posting 1)
  have KP0 := Lib.hid (show Ok W 20 #[.int .i64 0] (.bool false) from P.posting 0)
  have KV := fun (w : World) (b0 : Nat) (c0 : List Value) (hb : Below W.heap.size W w) (h0 : Av w b0 c0 aA E G) => P.verifyC (p := 37) (by decide) hb h0 szA
  rw [hvx, Bool.true_and, hho] at KV
  replace KV := Lib.hid KV
  have KSm := fun (w : World) (b0 : Nat) (c0 : List Value) (b1 : Nat) (c1 : List Value) (hb : Below W.heap.size W w) (h0 : Av w b0 c0 aA E G) (h1 : Av w b1 c1 aA E G) => P.sameC (r := true) hb h0 h1 szA szA (by simp)
  replace KSm := Lib.hid KSm
  have KCs := fun (w : World) (b0 : Nat) (c0 : List Value) (hb : Below W.heap.size W w) (h0 : Av w b0 c0 aA E G) => P.coreC hb h0 szA
  rw [show Ax.core aA E G = coreB aA from if_pos hvx] at KCs
  replace KCs := Lib.hid KCs
  have KCa := fun (w : World) (b0 : Nat) (c0 : List Value) (hb : Below W.heap.size W w) (h0 : Av w b0 c0 aA 0 0) => P.coreC hb h0 szA
  rw [show Ax.core aA 0 0 = coreB aA from if_pos (by unfold valid; rw [aA_ok]; rfl)] at KCa
  replace KCa := Lib.hid KCa
  have KCb := fun (w : World) (b0 : Nat) (c0 : List Value) (hb : Below W.heap.size W w) (h0 : Av w b0 c0 { aA with m := 20 } 0 0) => P.coreC hb h0 szB
  rw [show Ax.core { aA with m := 20 } 0 0 = [] from if_neg (by unfold valid; rw [aB_no]; decide)] at KCb
  replace KCb := Lib.hid KCb
  clear P szA szB szC szD szE hk1 hsg hrg hho hvx hbl hEG
  generalize hcc : coreB aA = cc at KCs KCa
  clear hcc
  generalize hbb : bytesB aA E G = bb at KBy KRd
  clear hbb
  go_enter Tryz.func9, Tryz.ntmps9
  go_wp2_with (first | ((with_reducible refine Lk.nw qa Vqa.out.len Vqa.out.one ?_ ?_ ?_ ?_); exact rfl; exact rfl; exact rfl) | ((with_reducible refine Lk.bu (d := 10) qa ?_ ?_ ?_); (rw [Hqa.out]; kernel_rfl); exact rfl) | fail)
  intro w1 bN hb
  have GVqa_B1 := Lib.hid (show 0 ≤ W.heap.size from Vqa.out.le)
  have GVqd_B1 := Lib.hid (show 0 ≤ W.heap.size from Vqd.out.le)
  have GB1 := Lib.hid (show W.heap.size ≤ W.heap.size from T.out.bel.size)
  replace T := Lib.hid (T.out.step hb)
  replace Vqa := Lib.hid (Vqa.out.step hb)
  replace Vqd := Lib.hid (Vqd.out.step hb)
  have B1 := Lib.hid (show Lk.Bl w1 W.heap.size qa 29 from bN)
  clear bN hb
  go_wp2_with (first | ((with_reducible refine Lk.nw qa Vqa.out.len Vqa.out.one ?_ ?_ ?_ ?_); exact rfl; exact rfl; exact rfl) | ((with_reducible refine Lk.ld (d := 11) W.heap.size B1.out Vqa.out.len ?_ ?_ ?_); exact rfl; exact rfl) | fail)
  intro w2 bN hb
  have LB1_B2 := Lib.hid (show W.heap.size < w1.heap.size from B1.out.lt)
  have GVqa_B2 := Lib.hid (show 0 ≤ w1.heap.size from Vqa.out.le)
  have GVqd_B2 := Lib.hid (show 0 ≤ w1.heap.size from Vqd.out.le)
  have GB2 := Lib.hid (show W.heap.size ≤ w1.heap.size from T.out.bel.size)
  replace T := Lib.hid (T.out.step hb)
  replace B1 := Lib.hid (B1.out.step hb)
  replace Vqa := Lib.hid (Vqa.out.step hb)
  replace Vqd := Lib.hid (Vqd.out.step hb)
  have B2 := Lib.hid (show Lk.Bl w2 w1.heap.size qa 29 from bN)
  clear bN hb
  go_wp2_with (first | ((with_reducible refine Lk.st w1.heap.size 17 [.int .i64 20] (.int .i64 20) B2.out ?_ ?_ ?_ ?_ ?_ ?_ ?_); exact Lk.infoI; exact rfl; (rw [Vqa.out.len]; exact Nat.le_of_ble_eq_true rfl); (simp [Value.oneCell']); exact rfl; exact rfl) | fail)
  intro w3 bN hb
  replace B1 := Lib.hid (B1.out.under hb LB1_B2.out)
  replace T := Lib.hid (T.out.under hb GB2.out)
  replace Vqa := Lib.hid (Vqa.out.under hb GVqa_B2.out)
  replace Vqd := Lib.hid (Vqd.out.under hb GVqd_B2.out)
  obtain ⟨cs3, hcs3⟩ : ∃ x : List Value, x = qa.take 17 ++ [.int .i64 20] ++ qa.drop (17 + ([.int .i64 20] : List Value).length) := ⟨_, rfl⟩
  have V3 := Lib.hid (show Av w3 0 cs3 { aA with m := 20 } 0 0 from by rw [hcs3]; exact Vqa.out.put 17 [.int .i64 20] rfl rfl (fun _ _ _ _ _ _ => rfl))
  replace B2 := Lib.hid (show Lk.Bl w3 w1.heap.size cs3 29 from by rw [hcs3]; exact bN)
  clear bN hb hcs3
  have GV3_B1 := GVqa_B1
  have GV3_B2 := GVqa_B2
  go_wp2_with (first | ((with_reducible refine Lk.nw qa Vqa.out.len Vqa.out.one ?_ ?_ ?_ ?_); exact rfl; exact rfl; exact rfl) | ((with_reducible refine Lk.ld (d := 13) W.heap.size B1.out Vqa.out.len ?_ ?_ ?_); exact rfl; exact rfl) | fail)
  intro w4 bN hb
  have LB1_B3 := Lib.hid (show W.heap.size < w3.heap.size from B1.out.lt)
  have LB2_B3 := Lib.hid (show w1.heap.size < w3.heap.size from B2.out.lt)
  have GVqa_B3 := Lib.hid (show 0 ≤ w3.heap.size from Vqa.out.le)
  have GVqd_B3 := Lib.hid (show 0 ≤ w3.heap.size from Vqd.out.le)
  have GV3_B3 := Lib.hid (show 0 ≤ w3.heap.size from V3.out.le)
  have GB3 := Lib.hid (show W.heap.size ≤ w3.heap.size from T.out.bel.size)
  replace T := Lib.hid (T.out.step hb)
  replace B1 := Lib.hid (B1.out.step hb)
  replace B2 := Lib.hid (B2.out.step hb)
  replace Vqa := Lib.hid (Vqa.out.step hb)
  replace Vqd := Lib.hid (Vqd.out.step hb)
  replace V3 := Lib.hid (V3.out.step hb)
  have B3 := Lib.hid (show Lk.Bl w4 w3.heap.size qa 29 from bN)
  clear bN hb
  go_wp2_with (first | ((with_reducible refine Lk.st w3.heap.size 5 [.string (S2.B dgS)] (.string (S2.B dgS)) B3.out ?_ ?_ ?_ ?_ ?_ ?_ ?_); exact Lk.infoS; exact rfl; (rw [Vqa.out.len]; exact Nat.le_of_ble_eq_true rfl); (simp [Value.oneCell']); exact rfl; exact rfl) | fail)
  intro w5 bN hb
  replace B1 := Lib.hid (B1.out.under hb LB1_B3.out)
  replace B2 := Lib.hid (B2.out.under hb LB2_B3.out)
  replace T := Lib.hid (T.out.under hb GB3.out)
  replace Vqa := Lib.hid (Vqa.out.under hb GVqa_B3.out)
  replace Vqd := Lib.hid (Vqd.out.under hb GVqd_B3.out)
  replace V3 := Lib.hid (V3.out.under hb GV3_B3.out)
  obtain ⟨cs5, hcs5⟩ : ∃ x : List Value, x = qa.take 5 ++ [.string (S2.B dgS)] ++ qa.drop (5 + ([.string (S2.B dgS)] : List Value).length) := ⟨_, rfl⟩
  have V5 := Lib.hid (show Av w5 0 cs5 { aA with object := dgS } 0 0 from by rw [hcs5]; exact Vqa.out.put 5 [.string (S2.B dgS)] rfl rfl (fun _ _ _ _ _ _ => rfl))
  replace B3 := Lib.hid (show Lk.Bl w5 w3.heap.size cs5 29 from by rw [hcs5]; exact bN)
  clear bN hb hcs5
  have GV5_B1 := GVqa_B1
  have GV5_B2 := GVqa_B2
  have GV5_B3 := GVqa_B3
  go_wp2_with (first | ((with_reducible refine Lk.nw qd Vqd.out.len Vqd.out.one ?_ ?_ ?_ ?_); exact rfl; exact rfl; exact rfl) | ((with_reducible refine Lk.bu (d := 17) qd ?_ ?_ ?_); (rw [Hqd.out]; kernel_rfl); exact rfl) | fail)
  intro w6 bN hb
  have LB1_B4 := Lib.hid (show W.heap.size < w5.heap.size from B1.out.lt)
  have LB2_B4 := Lib.hid (show w1.heap.size < w5.heap.size from B2.out.lt)
  have LB3_B4 := Lib.hid (show w3.heap.size < w5.heap.size from B3.out.lt)
  have GVqa_B4 := Lib.hid (show 0 ≤ w5.heap.size from Vqa.out.le)
  have GVqd_B4 := Lib.hid (show 0 ≤ w5.heap.size from Vqd.out.le)
  have GV3_B4 := Lib.hid (show 0 ≤ w5.heap.size from V3.out.le)
  have GV5_B4 := Lib.hid (show 0 ≤ w5.heap.size from V5.out.le)
  have GB4 := Lib.hid (show W.heap.size ≤ w5.heap.size from T.out.bel.size)
  replace T := Lib.hid (T.out.step hb)
  replace B1 := Lib.hid (B1.out.step hb)
  replace B2 := Lib.hid (B2.out.step hb)
  replace B3 := Lib.hid (B3.out.step hb)
  replace Vqa := Lib.hid (Vqa.out.step hb)
  replace Vqd := Lib.hid (Vqd.out.step hb)
  replace V3 := Lib.hid (V3.out.step hb)
  replace V5 := Lib.hid (V5.out.step hb)
  have B4 := Lib.hid (show Lk.Bl w6 w5.heap.size qd 29 from bN)
  clear bN hb
  go_wp2_with (first | ((with_reducible refine Lk.nw qd Vqd.out.len Vqd.out.one ?_ ?_ ?_ ?_); exact rfl; exact rfl; exact rfl) | ((with_reducible refine Lk.ld (d := 18) w5.heap.size B4.out Vqd.out.len ?_ ?_ ?_); exact rfl; exact rfl) | fail)
  intro w7 bN hb
  have LB1_B5 := Lib.hid (show W.heap.size < w6.heap.size from B1.out.lt)
  have LB2_B5 := Lib.hid (show w1.heap.size < w6.heap.size from B2.out.lt)
  have LB3_B5 := Lib.hid (show w3.heap.size < w6.heap.size from B3.out.lt)
  have LB4_B5 := Lib.hid (show w5.heap.size < w6.heap.size from B4.out.lt)
  have GVqa_B5 := Lib.hid (show 0 ≤ w6.heap.size from Vqa.out.le)
  have GVqd_B5 := Lib.hid (show 0 ≤ w6.heap.size from Vqd.out.le)
  have GV3_B5 := Lib.hid (show 0 ≤ w6.heap.size from V3.out.le)
  have GV5_B5 := Lib.hid (show 0 ≤ w6.heap.size from V5.out.le)
  have GB5 := Lib.hid (show W.heap.size ≤ w6.heap.size from T.out.bel.size)
  replace T := Lib.hid (T.out.step hb)
  replace B1 := Lib.hid (B1.out.step hb)
  replace B2 := Lib.hid (B2.out.step hb)
  replace B3 := Lib.hid (B3.out.step hb)
  replace B4 := Lib.hid (B4.out.step hb)
  replace Vqa := Lib.hid (Vqa.out.step hb)
  replace Vqd := Lib.hid (Vqd.out.step hb)
  replace V3 := Lib.hid (V3.out.step hb)
  replace V5 := Lib.hid (V5.out.step hb)
  have B5 := Lib.hid (show Lk.Bl w7 w6.heap.size qd 29 from bN)
  clear bN hb
  go_wp2_with (first | ((with_reducible refine Lk.st w6.heap.size 7 [.int .i64 2] (.int .i64 2) B5.out ?_ ?_ ?_ ?_ ?_ ?_ ?_); exact Lk.infoI; exact rfl; (rw [Vqd.out.len]; exact Nat.le_of_ble_eq_true rfl); (simp [Value.oneCell']); exact rfl; exact rfl) | fail)
  intro w8 bN hb
  replace B1 := Lib.hid (B1.out.under hb LB1_B5.out)
  replace B2 := Lib.hid (B2.out.under hb LB2_B5.out)
  replace B3 := Lib.hid (B3.out.under hb LB3_B5.out)
  replace B4 := Lib.hid (B4.out.under hb LB4_B5.out)
  replace T := Lib.hid (T.out.under hb GB5.out)
  replace Vqa := Lib.hid (Vqa.out.under hb GVqa_B5.out)
  replace Vqd := Lib.hid (Vqd.out.under hb GVqd_B5.out)
  replace V3 := Lib.hid (V3.out.under hb GV3_B5.out)
  replace V5 := Lib.hid (V5.out.under hb GV5_B5.out)
  obtain ⟨cs8, hcs8⟩ : ∃ x : List Value, x = qd.take 7 ++ [.int .i64 2] ++ qd.drop (7 + ([.int .i64 2] : List Value).length) := ⟨_, rfl⟩
  have V8 := Lib.hid (show Av w8 0 cs8 { aD with scope := 2 } 0 0 from by rw [hcs8]; exact Vqd.out.put 7 [.int .i64 2] rfl rfl (fun _ _ _ _ _ _ => rfl))
  replace B5 := Lib.hid (show Lk.Bl w8 w6.heap.size cs8 29 from by rw [hcs8]; exact bN)
  clear bN hb hcs8
  have GV8_B1 := GVqd_B1
  have GV8_B2 := GVqd_B2
  have GV8_B3 := GVqd_B3
  have GV8_B4 := GVqd_B4
  have GV8_B5 := GVqd_B5
  go_wp2_with (first | ((with_reducible refine Lk.ld (d := 21) W.heap.size B1.out Vqa.out.len ?_ ?_ ?_); exact rfl; exact rfl) | fail)
  refine (KG.out _ _ _ T.out.bel Vqa.out).mono ?_
  rintro e w9 ⟨cx, rfl, hx, hb⟩
  replace T := Lib.hid (T.out.step hb)
  replace B1 := Lib.hid (B1.out.step hb)
  replace B2 := Lib.hid (B2.out.step hb)
  replace B3 := Lib.hid (B3.out.step hb)
  replace B4 := Lib.hid (B4.out.step hb)
  replace B5 := Lib.hid (B5.out.step hb)
  replace Vqa := Lib.hid (Vqa.out.step hb)
  replace Vqd := Lib.hid (Vqd.out.step hb)
  replace V3 := Lib.hid (V3.out.step hb)
  replace V5 := Lib.hid (V5.out.step hb)
  replace V8 := Lib.hid (V8.out.step hb)
  have Vx := Lib.hid hx
  clear hx
  clear hb
  go_wp2_with (first | ((with_reducible refine Lk.nw cx Vx.out.len Vx.out.one ?_ ?_ ?_ ?_); exact rfl; exact rfl; exact rfl) | fail)
  intro w10 bN hb
  have LB1_B6 := Lib.hid (show W.heap.size < w9.heap.size from B1.out.lt)
  have LB2_B6 := Lib.hid (show w1.heap.size < w9.heap.size from B2.out.lt)
  have LB3_B6 := Lib.hid (show w3.heap.size < w9.heap.size from B3.out.lt)
  have LB4_B6 := Lib.hid (show w5.heap.size < w9.heap.size from B4.out.lt)
  have LB5_B6 := Lib.hid (show w6.heap.size < w9.heap.size from B5.out.lt)
  have GVqa_B6 := Lib.hid (show 0 ≤ w9.heap.size from Vqa.out.le)
  have GVqd_B6 := Lib.hid (show 0 ≤ w9.heap.size from Vqd.out.le)
  have GV3_B6 := Lib.hid (show 0 ≤ w9.heap.size from V3.out.le)
  have GV5_B6 := Lib.hid (show 0 ≤ w9.heap.size from V5.out.le)
  have GV8_B6 := Lib.hid (show 0 ≤ w9.heap.size from V8.out.le)
  have GVx_B6 := Lib.hid (show w9.heap.size ≤ w9.heap.size from Vx.out.le)
  have GB6 := Lib.hid (show W.heap.size ≤ w9.heap.size from T.out.bel.size)
  replace T := Lib.hid (T.out.step hb)
  replace B1 := Lib.hid (B1.out.step hb)
  replace B2 := Lib.hid (B2.out.step hb)
  replace B3 := Lib.hid (B3.out.step hb)
  replace B4 := Lib.hid (B4.out.step hb)
  replace B5 := Lib.hid (B5.out.step hb)
  replace Vqa := Lib.hid (Vqa.out.step hb)
  replace Vqd := Lib.hid (Vqd.out.step hb)
  replace V3 := Lib.hid (V3.out.step hb)
  replace V5 := Lib.hid (V5.out.step hb)
  replace V8 := Lib.hid (V8.out.step hb)
  replace Vx := Lib.hid (Vx.out.step hb)
  have B6 := Lib.hid (show Lk.Bl w10 w9.heap.size cx 29 from bN)
  clear bN hb
  go_wp2_with (first | ((with_reducible refine Lk.ld (d := 24) w9.heap.size B6.out Vx.out.len ?_ ?_ ?_); exact rfl; exact rfl) | fail)
  refine (KBy.out _ _ _ T.out.bel Vx.out).mono ?_
  rintro e w11 ⟨rfl, hb⟩
  replace T := Lib.hid (T.out.step hb)
  replace B1 := Lib.hid (B1.out.step hb)
  replace B2 := Lib.hid (B2.out.step hb)
  replace B3 := Lib.hid (B3.out.step hb)
  replace B4 := Lib.hid (B4.out.step hb)
  replace B5 := Lib.hid (B5.out.step hb)
  replace B6 := Lib.hid (B6.out.step hb)
  replace Vqa := Lib.hid (Vqa.out.step hb)
  replace Vqd := Lib.hid (Vqd.out.step hb)
  replace V3 := Lib.hid (V3.out.step hb)
  replace V5 := Lib.hid (V5.out.step hb)
  replace V8 := Lib.hid (V8.out.step hb)
  replace Vx := Lib.hid (Vx.out.step hb)
  clear hb
  go_wp2_with (first | fail)
  refine (KRd.out _ T.out.bel).mono ?_
  rintro e w12 ⟨cy, rfl, hx, hb⟩
  replace T := Lib.hid (T.out.step hb)
  replace B1 := Lib.hid (B1.out.step hb)
  replace B2 := Lib.hid (B2.out.step hb)
  replace B3 := Lib.hid (B3.out.step hb)
  replace B4 := Lib.hid (B4.out.step hb)
  replace B5 := Lib.hid (B5.out.step hb)
  replace B6 := Lib.hid (B6.out.step hb)
  replace Vqa := Lib.hid (Vqa.out.step hb)
  replace Vqd := Lib.hid (Vqd.out.step hb)
  replace V3 := Lib.hid (V3.out.step hb)
  replace V5 := Lib.hid (V5.out.step hb)
  replace V8 := Lib.hid (V8.out.step hb)
  replace Vx := Lib.hid (Vx.out.step hb)
  have Vy := Lib.hid hx
  clear hx
  clear hb
  go_wp2_with (first | ((with_reducible refine Lk.nw cy Vy.out.len Vy.out.one ?_ ?_ ?_ ?_); exact rfl; exact rfl; exact rfl) | fail)
  intro w13 bN hb
  have LB1_B7 := Lib.hid (show W.heap.size < w12.heap.size from B1.out.lt)
  have LB2_B7 := Lib.hid (show w1.heap.size < w12.heap.size from B2.out.lt)
  have LB3_B7 := Lib.hid (show w3.heap.size < w12.heap.size from B3.out.lt)
  have LB4_B7 := Lib.hid (show w5.heap.size < w12.heap.size from B4.out.lt)
  have LB5_B7 := Lib.hid (show w6.heap.size < w12.heap.size from B5.out.lt)
  have LB6_B7 := Lib.hid (show w9.heap.size < w12.heap.size from B6.out.lt)
  have GVqa_B7 := Lib.hid (show 0 ≤ w12.heap.size from Vqa.out.le)
  have GVqd_B7 := Lib.hid (show 0 ≤ w12.heap.size from Vqd.out.le)
  have GV3_B7 := Lib.hid (show 0 ≤ w12.heap.size from V3.out.le)
  have GV5_B7 := Lib.hid (show 0 ≤ w12.heap.size from V5.out.le)
  have GV8_B7 := Lib.hid (show 0 ≤ w12.heap.size from V8.out.le)
  have GVx_B7 := Lib.hid (show w9.heap.size ≤ w12.heap.size from Vx.out.le)
  have GVy_B7 := Lib.hid (show w12.heap.size ≤ w12.heap.size from Vy.out.le)
  have GB7 := Lib.hid (show W.heap.size ≤ w12.heap.size from T.out.bel.size)
  replace T := Lib.hid (T.out.step hb)
  replace B1 := Lib.hid (B1.out.step hb)
  replace B2 := Lib.hid (B2.out.step hb)
  replace B3 := Lib.hid (B3.out.step hb)
  replace B4 := Lib.hid (B4.out.step hb)
  replace B5 := Lib.hid (B5.out.step hb)
  replace B6 := Lib.hid (B6.out.step hb)
  replace Vqa := Lib.hid (Vqa.out.step hb)
  replace Vqd := Lib.hid (Vqd.out.step hb)
  replace V3 := Lib.hid (V3.out.step hb)
  replace V5 := Lib.hid (V5.out.step hb)
  replace V8 := Lib.hid (V8.out.step hb)
  replace Vx := Lib.hid (Vx.out.step hb)
  replace Vy := Lib.hid (Vy.out.step hb)
  have B7 := Lib.hid (show Lk.Bl w13 w12.heap.size cy 29 from bN)
  clear bN hb
  go_wp2_with (first | fail)
  replace T := Lib.hid (T.out.drew)
  replace B1 := Lib.hid (B1.out.drew)
  replace B2 := Lib.hid (B2.out.drew)
  replace B3 := Lib.hid (B3.out.drew)
  replace B4 := Lib.hid (B4.out.drew)
  replace B5 := Lib.hid (B5.out.drew)
  replace B6 := Lib.hid (B6.out.drew)
  replace B7 := Lib.hid (B7.out.drew)
  replace Vqa := Lib.hid (Vqa.out.drew)
  replace Vqd := Lib.hid (Vqd.out.drew)
  replace V3 := Lib.hid (V3.out.drew)
  replace V5 := Lib.hid (V5.out.drew)
  replace V8 := Lib.hid (V8.out.drew)
  replace Vx := Lib.hid (Vx.out.drew)
  replace Vy := Lib.hid (Vy.out.drew)
  refine wp_region_held_drew (S := (fun w' => Lk.Bl w' W.heap.size qa 29 ∧ Lk.Bl w' w1.heap.size cs3 29 ∧ Lk.Bl w' w3.heap.size cs5 29 ∧ Lk.Bl w' w5.heap.size qd 29 ∧ Lk.Bl w' w6.heap.size cs8 29 ∧ Lk.Bl w' w9.heap.size cx 29 ∧ Lk.Bl w' w12.heap.size cy 29 ∧ w'.cell? ⟨w5.heap.size, 3, none⟩ = some (.int .i64 aD.kind) ∧ w'.cell? ⟨W.heap.size, 3, none⟩ = some (.int .i64 aA.kind))) (by kernel_rfl) ⟨B1.out, B2.out, B3.out, B4.out, B5.out, B6.out, B7.out, (B4.out.c 3 _ Vqd.out.kind), (B1.out.c 3 _ Vqa.out.kind)⟩ (fun hHeld => ?_)
  refine wpAnyH_take (i := 0) (oi := ⟨_, _, _, _, _, _⟩) (v := .agg qa.toArray) rfl (by kernel_rfl) (by kernel_rfl) (by kernel_rfl) (fun _ _ _ h => h) (Or.inl ⟨by rfl, fun wz hSw => Lk.act_run _ rfl _ rfl hSw.1 Vqa.out.len⟩) (by assumption) ?_
  try simp only [Act.put, List.setIfInBounds_toArray, List.set_cons_zero, List.set_cons_succ]
  refine wpAnyH_ready (rs := [1]) (by kernel_rfl) (by simp) ?_
  refine AllReadyH.cons (o := ⟨_, _, _, _, _, _⟩) rfl (fun K hK => ?_) AllReadyH.nil
  go_simp
  refine (KA.out _ _ _ T.out.bel Vqa.out).mono ?_
  rintro e w14 ⟨rfl, hb⟩
  replace T := Lib.hid (T.out.step hb)
  replace B1 := Lib.hid (B1.out.step hb)
  replace B2 := Lib.hid (B2.out.step hb)
  replace B3 := Lib.hid (B3.out.step hb)
  replace B4 := Lib.hid (B4.out.step hb)
  replace B5 := Lib.hid (B5.out.step hb)
  replace B6 := Lib.hid (B6.out.step hb)
  replace B7 := Lib.hid (B7.out.step hb)
  replace Vqa := Lib.hid (Vqa.out.step hb)
  replace Vqd := Lib.hid (Vqd.out.step hb)
  replace V3 := Lib.hid (V3.out.step hb)
  replace V5 := Lib.hid (V5.out.step hb)
  replace V8 := Lib.hid (V8.out.step hb)
  replace Vx := Lib.hid (Vx.out.step hb)
  replace Vy := Lib.hid (Vy.out.step hb)
  clear hb hHeld
  refine hK.out _ _ ⟨B1.out, B2.out, B3.out, B4.out, B5.out, B6.out, B7.out, (B4.out.c 3 _ Vqd.out.kind), (B1.out.c 3 _ Vqa.out.kind)⟩ (fun hHeld => ?_)
  clear hK K
  try simp only [Act.put, List.setIfInBounds_toArray, List.set_cons_zero, List.set_cons_succ]
  refine wpAnyH_take (i := 2) (oi := ⟨_, _, _, _, _, _⟩) (v := ?_) rfl (by kernel_rfl) (by kernel_rfl) (by kernel_rfl) (fun _ _ _ h => h) (Or.inl ⟨by rfl, ?_⟩) (by assumption) ?_
  rotate_left
  · intro wz hSw
    try dsimp only at hSw
    go_simp
    try with_reducible rfl
  try simp only [Act.put, List.setIfInBounds_toArray, List.set_cons_zero, List.set_cons_succ]
  refine wpAnyH_take (i := 3) (oi := ⟨_, _, _, _, _, _⟩) (v := .agg cs3.toArray) rfl (by kernel_rfl) (by kernel_rfl) (by kernel_rfl) (fun _ _ _ h => h) (Or.inl ⟨by rfl, fun wz hSw => Lk.act_run _ rfl _ rfl hSw.2.1 V3.out.len⟩) (by assumption) ?_
  try simp only [Act.put, List.setIfInBounds_toArray, List.set_cons_zero, List.set_cons_succ]
  refine wpAnyH_ready (rs := [4]) (by kernel_rfl) (by simp) ?_
  refine AllReadyH.cons (o := ⟨_, _, _, _, _, _⟩) rfl (fun K hK => ?_) AllReadyH.nil
  go_simp
  refine (KB.out _ _ _ T.out.bel V3.out).mono ?_
  rintro e w15 ⟨rfl, hb⟩
  replace T := Lib.hid (T.out.step hb)
  replace B1 := Lib.hid (B1.out.step hb)
  replace B2 := Lib.hid (B2.out.step hb)
  replace B3 := Lib.hid (B3.out.step hb)
  replace B4 := Lib.hid (B4.out.step hb)
  replace B5 := Lib.hid (B5.out.step hb)
  replace B6 := Lib.hid (B6.out.step hb)
  replace B7 := Lib.hid (B7.out.step hb)
  replace Vqa := Lib.hid (Vqa.out.step hb)
  replace Vqd := Lib.hid (Vqd.out.step hb)
  replace V3 := Lib.hid (V3.out.step hb)
  replace V5 := Lib.hid (V5.out.step hb)
  replace V8 := Lib.hid (V8.out.step hb)
  replace Vx := Lib.hid (Vx.out.step hb)
  replace Vy := Lib.hid (Vy.out.step hb)
  clear hb hHeld
  refine hK.out _ _ ⟨B1.out, B2.out, B3.out, B4.out, B5.out, B6.out, B7.out, (B4.out.c 3 _ Vqd.out.kind), (B1.out.c 3 _ Vqa.out.kind)⟩ (fun hHeld => ?_)
  clear hK K
  try simp only [Act.put, List.setIfInBounds_toArray, List.set_cons_zero, List.set_cons_succ]
  refine wpAnyH_take (i := 5) (oi := ⟨_, _, _, _, _, _⟩) (v := ?_) rfl (by kernel_rfl) (by kernel_rfl) (by kernel_rfl) (fun _ _ _ h => h) (Or.inl ⟨by rfl, ?_⟩) (by assumption) ?_
  rotate_left
  · intro wz hSw
    try dsimp only at hSw
    go_simp
    try with_reducible rfl
  try simp only [Act.put, List.setIfInBounds_toArray, List.set_cons_zero, List.set_cons_succ]
  refine wpAnyH_take (i := 6) (oi := ⟨_, _, _, _, _, _⟩) (v := ?_) rfl (by kernel_rfl) (by kernel_rfl) (by kernel_rfl) (fun _ _ _ h => h) (Or.inl ⟨by rfl, ?_⟩) (by assumption) ?_
  rotate_left
  · intro wz hSw
    try dsimp only at hSw
    go_simp
    try with_reducible rfl
  try simp only [Act.put, List.setIfInBounds_toArray, List.set_cons_zero, List.set_cons_succ]
  refine wpAnyH_take (i := 7) (oi := ⟨_, _, _, _, _, _⟩) (v := ?_) rfl (by kernel_rfl) (by kernel_rfl) (by kernel_rfl) (fun _ _ _ h => h) (Or.inl ⟨by rfl, ?_⟩) (by assumption) ?_
  rotate_left
  · intro wz hSw
    try dsimp only at hSw
    go_simp
    try with_reducible rfl
  try simp only [Act.put, List.setIfInBounds_toArray, List.set_cons_zero, List.set_cons_succ]
  refine wpAnyH_take (i := 8) (oi := ⟨_, _, _, _, _, _⟩) (v := .agg cs5.toArray) rfl (by kernel_rfl) (by kernel_rfl) (by kernel_rfl) (fun _ _ _ h => h) (Or.inl ⟨by rfl, fun wz hSw => Lk.act_run _ rfl _ rfl hSw.2.2.1 V5.out.len⟩) (by assumption) ?_
  try simp only [Act.put, List.setIfInBounds_toArray, List.set_cons_zero, List.set_cons_succ]
  refine wpAnyH_ready (rs := [9]) (by kernel_rfl) (by simp) ?_
  refine AllReadyH.cons (o := ⟨_, _, _, _, _, _⟩) rfl (fun K hK => ?_) AllReadyH.nil
  go_simp
  refine (KC.out _ _ _ T.out.bel V5.out).mono ?_
  rintro e w16 ⟨rfl, hb⟩
  replace T := Lib.hid (T.out.step hb)
  replace B1 := Lib.hid (B1.out.step hb)
  replace B2 := Lib.hid (B2.out.step hb)
  replace B3 := Lib.hid (B3.out.step hb)
  replace B4 := Lib.hid (B4.out.step hb)
  replace B5 := Lib.hid (B5.out.step hb)
  replace B6 := Lib.hid (B6.out.step hb)
  replace B7 := Lib.hid (B7.out.step hb)
  replace Vqa := Lib.hid (Vqa.out.step hb)
  replace Vqd := Lib.hid (Vqd.out.step hb)
  replace V3 := Lib.hid (V3.out.step hb)
  replace V5 := Lib.hid (V5.out.step hb)
  replace V8 := Lib.hid (V8.out.step hb)
  replace Vx := Lib.hid (Vx.out.step hb)
  replace Vy := Lib.hid (Vy.out.step hb)
  clear hb hHeld
  refine hK.out _ _ ⟨B1.out, B2.out, B3.out, B4.out, B5.out, B6.out, B7.out, (B4.out.c 3 _ Vqd.out.kind), (B1.out.c 3 _ Vqa.out.kind)⟩ (fun hHeld => ?_)
  clear hK K
  try simp only [Act.put, List.setIfInBounds_toArray, List.set_cons_zero, List.set_cons_succ]
  refine wpAnyH_take (i := 10) (oi := ⟨_, _, _, _, _, _⟩) (v := ?_) rfl (by kernel_rfl) (by kernel_rfl) (by kernel_rfl) (fun _ _ _ h => h) (Or.inl ⟨by rfl, ?_⟩) (by assumption) ?_
  rotate_left
  · intro wz hSw
    try dsimp only at hSw
    go_simp
    try with_reducible rfl
  try simp only [Act.put, List.setIfInBounds_toArray, List.set_cons_zero, List.set_cons_succ]
  refine wpAnyH_take (i := 11) (oi := ⟨_, _, _, _, _, _⟩) (v := ?_) rfl (by kernel_rfl) (by kernel_rfl) (by kernel_rfl) (fun _ _ _ h => h) (Or.inl ⟨by rfl, ?_⟩) (by assumption) ?_
  rotate_left
  · intro wz hSw
    try dsimp only at hSw
    go_simp
    try with_reducible rfl
  try simp only [Act.put, List.setIfInBounds_toArray, List.set_cons_zero, List.set_cons_succ]
  refine wpAnyH_take (i := 12) (oi := ⟨_, _, _, _, _, _⟩) (v := ?_) rfl (by kernel_rfl) (by kernel_rfl) (by kernel_rfl) (fun _ _ _ h => h) (Or.inl ⟨by rfl, ?_⟩) (by assumption) ?_
  rotate_left
  · intro wz hSw
    try dsimp only at hSw
    go_simp
    try with_reducible rfl
  try simp only [Act.put, List.setIfInBounds_toArray, List.set_cons_zero, List.set_cons_succ]
  refine wpAnyH_take (i := 13) (oi := ⟨_, _, _, _, _, _⟩) (v := .agg qd.toArray) rfl (by kernel_rfl) (by kernel_rfl) (by kernel_rfl) (fun _ _ _ h => h) (Or.inl ⟨by rfl, fun wz hSw => Lk.act_run _ rfl _ rfl hSw.2.2.2.1 Vqd.out.len⟩) (by assumption) ?_
  try simp only [Act.put, List.setIfInBounds_toArray, List.set_cons_zero, List.set_cons_succ]
  refine wpAnyH_ready (rs := [14]) (by kernel_rfl) (by simp) ?_
  refine AllReadyH.cons (o := ⟨_, _, _, _, _, _⟩) rfl (fun K hK => ?_) AllReadyH.nil
  go_simp
  refine (KD.out _ _ _ T.out.bel Vqd.out).mono ?_
  rintro e w17 ⟨rfl, hb⟩
  replace T := Lib.hid (T.out.step hb)
  replace B1 := Lib.hid (B1.out.step hb)
  replace B2 := Lib.hid (B2.out.step hb)
  replace B3 := Lib.hid (B3.out.step hb)
  replace B4 := Lib.hid (B4.out.step hb)
  replace B5 := Lib.hid (B5.out.step hb)
  replace B6 := Lib.hid (B6.out.step hb)
  replace B7 := Lib.hid (B7.out.step hb)
  replace Vqa := Lib.hid (Vqa.out.step hb)
  replace Vqd := Lib.hid (Vqd.out.step hb)
  replace V3 := Lib.hid (V3.out.step hb)
  replace V5 := Lib.hid (V5.out.step hb)
  replace V8 := Lib.hid (V8.out.step hb)
  replace Vx := Lib.hid (Vx.out.step hb)
  replace Vy := Lib.hid (Vy.out.step hb)
  clear hb hHeld
  refine hK.out _ _ ⟨B1.out, B2.out, B3.out, B4.out, B5.out, B6.out, B7.out, (B4.out.c 3 _ Vqd.out.kind), (B1.out.c 3 _ Vqa.out.kind)⟩ (fun hHeld => ?_)
  clear hK K
  try simp only [Act.put, List.setIfInBounds_toArray, List.set_cons_zero, List.set_cons_succ]
  refine wpAnyH_take (i := 15) (oi := ⟨_, _, _, _, _, _⟩) (v := ?_) rfl (by kernel_rfl) (by kernel_rfl) (by kernel_rfl) (fun _ _ _ h => h) (Or.inl ⟨by rfl, ?_⟩) (by assumption) ?_
  rotate_left
  · intro wz hSw
    try dsimp only at hSw
    go_simp
    try with_reducible rfl
  try simp only [Act.put, List.setIfInBounds_toArray, List.set_cons_zero, List.set_cons_succ]
  refine wpAnyH_take (i := 16) (oi := ⟨_, _, _, _, _, _⟩) (v := ?_) rfl (by kernel_rfl) (by kernel_rfl) (by kernel_rfl) (fun _ _ _ h => h) (Or.inl ⟨by rfl, ?_⟩) (by assumption) ?_
  rotate_left
  · intro wz hSw
    try dsimp only at hSw
    go_simp
    try with_reducible rfl
  try simp only [Act.put, List.setIfInBounds_toArray, List.set_cons_zero, List.set_cons_succ]
  refine wpAnyH_take (i := 17) (oi := ⟨_, _, _, _, _, _⟩) (v := .agg cs8.toArray) rfl (by kernel_rfl) (by kernel_rfl) (by kernel_rfl) (fun _ _ _ h => h) (Or.inl ⟨by rfl, fun wz hSw => Lk.act_run _ rfl _ rfl hSw.2.2.2.2.1 V8.out.len⟩) (by assumption) ?_
  try simp only [Act.put, List.setIfInBounds_toArray, List.set_cons_zero, List.set_cons_succ]
  refine wpAnyH_ready (rs := [18]) (by kernel_rfl) (by simp) ?_
  refine AllReadyH.cons (o := ⟨_, _, _, _, _, _⟩) rfl (fun K hK => ?_) AllReadyH.nil
  go_simp
  refine (KE.out _ _ _ T.out.bel V8.out).mono ?_
  rintro e w18 ⟨rfl, hb⟩
  replace T := Lib.hid (T.out.step hb)
  replace B1 := Lib.hid (B1.out.step hb)
  replace B2 := Lib.hid (B2.out.step hb)
  replace B3 := Lib.hid (B3.out.step hb)
  replace B4 := Lib.hid (B4.out.step hb)
  replace B5 := Lib.hid (B5.out.step hb)
  replace B6 := Lib.hid (B6.out.step hb)
  replace B7 := Lib.hid (B7.out.step hb)
  replace Vqa := Lib.hid (Vqa.out.step hb)
  replace Vqd := Lib.hid (Vqd.out.step hb)
  replace V3 := Lib.hid (V3.out.step hb)
  replace V5 := Lib.hid (V5.out.step hb)
  replace V8 := Lib.hid (V8.out.step hb)
  replace Vx := Lib.hid (Vx.out.step hb)
  replace Vy := Lib.hid (Vy.out.step hb)
  clear hb hHeld
  refine hK.out _ _ ⟨B1.out, B2.out, B3.out, B4.out, B5.out, B6.out, B7.out, (B4.out.c 3 _ Vqd.out.kind), (B1.out.c 3 _ Vqa.out.kind)⟩ (fun hHeld => ?_)
  clear hK K
  try simp only [Act.put, List.setIfInBounds_toArray, List.set_cons_zero, List.set_cons_succ]
  refine wpAnyH_take (i := 19) (oi := ⟨_, _, _, _, _, _⟩) (v := ?_) rfl (by kernel_rfl) (by kernel_rfl) (by kernel_rfl) (fun _ _ _ h => h) (Or.inl ⟨by rfl, ?_⟩) (by assumption) ?_
  rotate_left
  · intro wz hSw
    try dsimp only at hSw
    go_simp
    try with_reducible rfl
  try simp only [Act.put, List.setIfInBounds_toArray, List.set_cons_zero, List.set_cons_succ]
  refine wpAnyH_take (i := 20) (oi := ⟨_, _, _, _, _, _⟩) (v := ?_) rfl (by kernel_rfl) (by kernel_rfl) (by kernel_rfl) (fun _ _ _ h => h) (Or.inl ⟨by rfl, ?_⟩) (by assumption) ?_
  rotate_left
  · intro wz hSw
    try dsimp only at hSw
    go_simp
    try with_reducible rfl
  try simp only [Act.put, List.setIfInBounds_toArray, List.set_cons_zero, List.set_cons_succ]
  refine wpAnyH_take (i := 21) (oi := ⟨_, _, _, _, _, _⟩) (v := ?_) rfl (by kernel_rfl) (by kernel_rfl) (by kernel_rfl) (fun _ _ _ h => h) (Or.inl ⟨by rfl, ?_⟩) (by assumption) ?_
  rotate_left
  · intro wz hSw
    try dsimp only at hSw
    go_simp
    try with_reducible rfl
  try simp only [Act.put, List.setIfInBounds_toArray, List.set_cons_zero, List.set_cons_succ]
  refine wpAnyH_take (i := 22) (oi := ⟨_, _, _, _, _, _⟩) (v := ?_) rfl (by kernel_rfl) (by kernel_rfl) (by kernel_rfl) (fun _ _ _ h => h) (Or.inl ⟨by rfl, ?_⟩) (by assumption) ?_
  rotate_left
  · intro wz hSw
    try dsimp only at hSw
    go_simp
    try with_reducible rfl
  try simp only [Act.put, List.setIfInBounds_toArray, List.set_cons_zero, List.set_cons_succ]
  refine wpAnyH_take (i := 23) (oi := ⟨_, _, _, _, _, _⟩) (v := ?_) rfl (by kernel_rfl) (by kernel_rfl) (by kernel_rfl) (fun _ _ _ h => h) (Or.inl ⟨by rfl, ?_⟩) (by assumption) ?_
  rotate_left
  · intro wz hSw
    try dsimp only at hSw
    go_simp
    try with_reducible rfl
  try simp only [Act.put, List.setIfInBounds_toArray, List.set_cons_zero, List.set_cons_succ]
  refine wpAnyH_ready (rs := [24]) (by kernel_rfl) (by simp) ?_
  refine AllReadyH.cons (o := ⟨_, _, _, _, _, _⟩) rfl (fun K hK => ?_) AllReadyH.nil
  go_simp
  refine (KP1.out _ T.out.bel).mono ?_
  rintro e w19 ⟨rfl, hb⟩
  replace T := Lib.hid (T.out.step hb)
  replace B1 := Lib.hid (B1.out.step hb)
  replace B2 := Lib.hid (B2.out.step hb)
  replace B3 := Lib.hid (B3.out.step hb)
  replace B4 := Lib.hid (B4.out.step hb)
  replace B5 := Lib.hid (B5.out.step hb)
  replace B6 := Lib.hid (B6.out.step hb)
  replace B7 := Lib.hid (B7.out.step hb)
  replace Vqa := Lib.hid (Vqa.out.step hb)
  replace Vqd := Lib.hid (Vqd.out.step hb)
  replace V3 := Lib.hid (V3.out.step hb)
  replace V5 := Lib.hid (V5.out.step hb)
  replace V8 := Lib.hid (V8.out.step hb)
  replace Vx := Lib.hid (Vx.out.step hb)
  replace Vy := Lib.hid (Vy.out.step hb)
  clear hb hHeld
  refine hK.out _ _ ⟨B1.out, B2.out, B3.out, B4.out, B5.out, B6.out, B7.out, (B4.out.c 3 _ Vqd.out.kind), (B1.out.c 3 _ Vqa.out.kind)⟩ (fun hHeld => ?_)
  clear hK K
  try simp only [Act.put, List.setIfInBounds_toArray, List.set_cons_zero, List.set_cons_succ]
  refine wpAnyH_take (i := 25) (oi := ⟨_, _, _, _, _, _⟩) (v := ?_) rfl (by kernel_rfl) (by kernel_rfl) (by kernel_rfl) (fun _ _ _ h => h) (Or.inl ⟨by rfl, ?_⟩) (by assumption) ?_
  rotate_left
  · intro wz hSw
    try dsimp only at hSw
    go_simp
    try with_reducible rfl
  try simp only [Act.put, List.setIfInBounds_toArray, List.set_cons_zero, List.set_cons_succ]
  refine wpAnyH_take (i := 26) (oi := ⟨_, _, _, _, _, _⟩) (v := ?_) rfl (by kernel_rfl) (by kernel_rfl) (by kernel_rfl) (fun _ _ _ h => h) (Or.inl ⟨by rfl, ?_⟩) (by assumption) ?_
  rotate_left
  · intro wz hSw
    try dsimp only at hSw
    go_simp
    try with_reducible rfl
  try simp only [Act.put, List.setIfInBounds_toArray, List.set_cons_zero, List.set_cons_succ]
  refine wpAnyH_take (i := 27) (oi := ⟨_, _, _, _, _, _⟩) (v := ?_) rfl (by kernel_rfl) (by kernel_rfl) (by kernel_rfl) (fun _ _ _ h => h) (Or.inl ⟨by rfl, ?_⟩) (by assumption) ?_
  rotate_left
  · intro wz hSw
    try dsimp only at hSw
    go_simp
    try with_reducible rfl
  try simp only [Act.put, List.setIfInBounds_toArray, List.set_cons_zero, List.set_cons_succ]
  refine wpAnyH_take (i := 28) (oi := ⟨_, _, _, _, _, _⟩) (v := ?_) rfl (by kernel_rfl) (by kernel_rfl) (by kernel_rfl) (fun _ _ _ h => h) (Or.inl ⟨by rfl, ?_⟩) (by assumption) ?_
  rotate_left
  · intro wz hSw
    try dsimp only at hSw
    go_simp
    try with_reducible rfl
  try simp only [Act.put, List.setIfInBounds_toArray, List.set_cons_zero, List.set_cons_succ]
  refine wpAnyH_ready (rs := [29]) (by kernel_rfl) (by simp) ?_
  refine AllReadyH.cons (o := ⟨_, _, _, _, _, _⟩) rfl (fun K hK => ?_) AllReadyH.nil
  go_simp
  refine (KP0.out _ T.out.bel).mono ?_
  rintro e w20 ⟨rfl, hb⟩
  replace T := Lib.hid (T.out.step hb)
  replace B1 := Lib.hid (B1.out.step hb)
  replace B2 := Lib.hid (B2.out.step hb)
  replace B3 := Lib.hid (B3.out.step hb)
  replace B4 := Lib.hid (B4.out.step hb)
  replace B5 := Lib.hid (B5.out.step hb)
  replace B6 := Lib.hid (B6.out.step hb)
  replace B7 := Lib.hid (B7.out.step hb)
  replace Vqa := Lib.hid (Vqa.out.step hb)
  replace Vqd := Lib.hid (Vqd.out.step hb)
  replace V3 := Lib.hid (V3.out.step hb)
  replace V5 := Lib.hid (V5.out.step hb)
  replace V8 := Lib.hid (V8.out.step hb)
  replace Vx := Lib.hid (Vx.out.step hb)
  replace Vy := Lib.hid (Vy.out.step hb)
  clear hb hHeld
  refine hK.out _ _ ⟨B1.out, B2.out, B3.out, B4.out, B5.out, B6.out, B7.out, (B4.out.c 3 _ Vqd.out.kind), (B1.out.c 3 _ Vqa.out.kind)⟩ (fun hHeld => ?_)
  clear hK K
  try simp only [Act.put, List.setIfInBounds_toArray, List.set_cons_zero, List.set_cons_succ]
  refine wpAnyH_take (i := 30) (oi := ⟨_, _, _, _, _, _⟩) (v := ?_) rfl (by kernel_rfl) (by kernel_rfl) (by kernel_rfl) (fun _ _ _ h => h) (Or.inl ⟨by rfl, ?_⟩) (by assumption) ?_
  rotate_left
  · intro wz hSw
    try dsimp only at hSw
    go_simp
    try with_reducible rfl
  try simp only [Act.put, List.setIfInBounds_toArray, List.set_cons_zero, List.set_cons_succ]
  refine wpAnyH_take (i := 31) (oi := ⟨_, _, _, _, _, _⟩) (v := ?_) rfl (by kernel_rfl) (by kernel_rfl) (by kernel_rfl) (fun _ _ _ h => h) (Or.inl ⟨by rfl, ?_⟩) (by assumption) ?_
  rotate_left
  · intro wz hSw
    try dsimp only at hSw
    go_simp
    try with_reducible rfl
  try simp only [Act.put, List.setIfInBounds_toArray, List.set_cons_zero, List.set_cons_succ]
  refine wpAnyH_take (i := 32) (oi := ⟨_, _, _, _, _, _⟩) (v := ?_) rfl (by kernel_rfl) (by kernel_rfl) (by kernel_rfl) (fun _ _ _ h => h) (Or.inl ⟨by rfl, ?_⟩) (by assumption) ?_
  rotate_left
  · intro wz hSw
    try dsimp only at hSw
    go_simp
    try with_reducible rfl
  try simp only [Act.put, List.setIfInBounds_toArray, List.set_cons_zero, List.set_cons_succ]
  refine wpAnyH_take (i := 33) (oi := ⟨_, _, _, _, _, _⟩) (v := .agg cx.toArray) rfl (by kernel_rfl) (by kernel_rfl) (by kernel_rfl) (fun _ _ _ h => h) (Or.inl ⟨by rfl, fun wz hSw => Lk.act_run _ rfl _ rfl hSw.2.2.2.2.2.1 Vx.out.len⟩) (by assumption) ?_
  try simp only [Act.put, List.setIfInBounds_toArray, List.set_cons_zero, List.set_cons_succ]
  refine wpAnyH_ready (rs := [34]) (by kernel_rfl) (by simp) ?_
  refine AllReadyH.cons (o := ⟨_, _, _, _, _, _⟩) rfl (fun K hK => ?_) AllReadyH.nil
  go_simp
  refine (KV.out _ _ _ T.out.bel Vx.out).mono ?_
  rintro e w21 ⟨rfl, hb⟩
  replace T := Lib.hid (T.out.step hb)
  replace B1 := Lib.hid (B1.out.step hb)
  replace B2 := Lib.hid (B2.out.step hb)
  replace B3 := Lib.hid (B3.out.step hb)
  replace B4 := Lib.hid (B4.out.step hb)
  replace B5 := Lib.hid (B5.out.step hb)
  replace B6 := Lib.hid (B6.out.step hb)
  replace B7 := Lib.hid (B7.out.step hb)
  replace Vqa := Lib.hid (Vqa.out.step hb)
  replace Vqd := Lib.hid (Vqd.out.step hb)
  replace V3 := Lib.hid (V3.out.step hb)
  replace V5 := Lib.hid (V5.out.step hb)
  replace V8 := Lib.hid (V8.out.step hb)
  replace Vx := Lib.hid (Vx.out.step hb)
  replace Vy := Lib.hid (Vy.out.step hb)
  clear hb hHeld
  refine hK.out _ _ ⟨B1.out, B2.out, B3.out, B4.out, B5.out, B6.out, B7.out, (B4.out.c 3 _ Vqd.out.kind), (B1.out.c 3 _ Vqa.out.kind)⟩ (fun hHeld => ?_)
  clear hK K
  try simp only [Act.put, List.setIfInBounds_toArray, List.set_cons_zero, List.set_cons_succ]
  refine wpAnyH_take (i := 35) (oi := ⟨_, _, _, _, _, _⟩) (v := ?_) rfl (by kernel_rfl) (by kernel_rfl) (by kernel_rfl) (fun _ _ _ h => h) (Or.inl ⟨by rfl, ?_⟩) (by assumption) ?_
  rotate_left
  · intro wz hSw
    try dsimp only at hSw
    go_simp
    try with_reducible rfl
  try simp only [Act.put, List.setIfInBounds_toArray, List.set_cons_zero, List.set_cons_succ]
  refine wpAnyH_take (i := 36) (oi := ⟨_, _, _, _, _, _⟩) (v := ?_) rfl (by kernel_rfl) (by kernel_rfl) (by kernel_rfl) (fun _ _ _ h => h) (Or.inl ⟨by rfl, ?_⟩) (by assumption) ?_
  rotate_left
  · intro wz hSw
    try dsimp only at hSw
    go_simp
    try with_reducible rfl
  try simp only [Act.put, List.setIfInBounds_toArray, List.set_cons_zero, List.set_cons_succ]
  refine wpAnyH_take (i := 37) (oi := ⟨_, _, _, _, _, _⟩) (v := ?_) rfl (by kernel_rfl) (by kernel_rfl) (by kernel_rfl) (fun _ _ _ h => h) (Or.inl ⟨by rfl, ?_⟩) (by assumption) ?_
  rotate_left
  · intro wz hSw
    try dsimp only at hSw
    go_simp
    try with_reducible rfl
  try simp only [Act.put, List.setIfInBounds_toArray, List.set_cons_zero, List.set_cons_succ]
  refine wpAnyH_take (i := 38) (oi := ⟨_, _, _, _, _, _⟩) (v := ?_) rfl (by kernel_rfl) (by kernel_rfl) (by kernel_rfl) (fun _ _ _ h => h) (Or.inl ⟨by rfl, ?_⟩) (by assumption) ?_
  rotate_left
  · intro wz hSw
    try dsimp only at hSw
    go_simp
    try with_reducible rfl
  try simp only [Act.put, List.setIfInBounds_toArray, List.set_cons_zero, List.set_cons_succ]
  refine wpAnyH_take (i := 39) (oi := ⟨_, _, _, _, _, _⟩) (v := ?_) rfl (by kernel_rfl) (by kernel_rfl) (by kernel_rfl) (fun _ _ _ h => h) (Or.inl ⟨by rfl, ?_⟩) (by assumption) ?_
  rotate_left
  · intro wz hSw
    try dsimp only at hSw
    go_simp
    try with_reducible rfl
  try simp only [Act.put, List.setIfInBounds_toArray, List.set_cons_zero, List.set_cons_succ]
  refine wpAnyH_take (i := 40) (oi := ⟨_, _, _, _, _, _⟩) (v := .agg cy.toArray) rfl (by kernel_rfl) (by kernel_rfl) (by kernel_rfl) (fun _ _ _ h => h) (Or.inl ⟨by rfl, fun wz hSw => Lk.act_run _ rfl _ rfl hSw.2.2.2.2.2.2.1 Vy.out.len⟩) (by assumption) ?_
  try simp only [Act.put, List.setIfInBounds_toArray, List.set_cons_zero, List.set_cons_succ]
  refine wpAnyH_take (i := 41) (oi := ⟨_, _, _, _, _, _⟩) (v := .agg cx.toArray) rfl (by kernel_rfl) (by kernel_rfl) (by kernel_rfl) (fun _ _ _ h => h) (Or.inl ⟨by rfl, fun wz hSw => Lk.act_run _ rfl _ rfl hSw.2.2.2.2.2.1 Vx.out.len⟩) (by assumption) ?_
  try simp only [Act.put, List.setIfInBounds_toArray, List.set_cons_zero, List.set_cons_succ]
  refine wpAnyH_ready (rs := [42]) (by kernel_rfl) (by simp) ?_
  refine AllReadyH.cons (o := ⟨_, _, _, _, _, _⟩) rfl (fun K hK => ?_) AllReadyH.nil
  go_simp
  refine (KSm.out _ _ _ _ _ T.out.bel Vy.out Vx.out).mono ?_
  rintro e w22 ⟨rfl, hb⟩
  replace T := Lib.hid (T.out.step hb)
  replace B1 := Lib.hid (B1.out.step hb)
  replace B2 := Lib.hid (B2.out.step hb)
  replace B3 := Lib.hid (B3.out.step hb)
  replace B4 := Lib.hid (B4.out.step hb)
  replace B5 := Lib.hid (B5.out.step hb)
  replace B6 := Lib.hid (B6.out.step hb)
  replace B7 := Lib.hid (B7.out.step hb)
  replace Vqa := Lib.hid (Vqa.out.step hb)
  replace Vqd := Lib.hid (Vqd.out.step hb)
  replace V3 := Lib.hid (V3.out.step hb)
  replace V5 := Lib.hid (V5.out.step hb)
  replace V8 := Lib.hid (V8.out.step hb)
  replace Vx := Lib.hid (Vx.out.step hb)
  replace Vy := Lib.hid (Vy.out.step hb)
  clear hb hHeld
  refine hK.out _ _ ⟨B1.out, B2.out, B3.out, B4.out, B5.out, B6.out, B7.out, (B4.out.c 3 _ Vqd.out.kind), (B1.out.c 3 _ Vqa.out.kind)⟩ (fun hHeld => ?_)
  clear hK K
  try simp only [Act.put, List.setIfInBounds_toArray, List.set_cons_zero, List.set_cons_succ]
  refine wpAnyH_take (i := 43) (oi := ⟨_, _, _, _, _, _⟩) (v := ?_) rfl (by kernel_rfl) (by kernel_rfl) (by kernel_rfl) (fun _ _ _ h => h) (Or.inl ⟨by rfl, ?_⟩) (by assumption) ?_
  rotate_left
  · intro wz hSw
    try dsimp only at hSw
    go_simp
    try with_reducible rfl
  try simp only [Act.put, List.setIfInBounds_toArray, List.set_cons_zero, List.set_cons_succ]
  refine wpAnyH_take (i := 44) (oi := ⟨_, _, _, _, _, _⟩) (v := ?_) rfl (by kernel_rfl) (by kernel_rfl) (by kernel_rfl) (fun _ _ _ h => h) (Or.inl ⟨by rfl, ?_⟩) (by assumption) ?_
  rotate_left
  · intro wz hSw
    try dsimp only at hSw
    go_simp
    try with_reducible rfl
  try simp only [Act.put, List.setIfInBounds_toArray, List.set_cons_zero, List.set_cons_succ]
  refine wpAnyH_take (i := 45) (oi := ⟨_, _, _, _, _, _⟩) (v := .agg cx.toArray) rfl (by kernel_rfl) (by kernel_rfl) (by kernel_rfl) (fun _ _ _ h => h) (Or.inl ⟨by rfl, fun wz hSw => Lk.act_run _ rfl _ rfl hSw.2.2.2.2.2.1 Vx.out.len⟩) (by assumption) ?_
  try simp only [Act.put, List.setIfInBounds_toArray, List.set_cons_zero, List.set_cons_succ]
  refine wpAnyH_take (i := 47) (oi := ⟨_, _, _, _, _, _⟩) (v := .agg qa.toArray) rfl (by kernel_rfl) (by kernel_rfl) (by kernel_rfl) (fun _ _ _ h => h) (Or.inl ⟨by rfl, fun wz hSw => Lk.act_run _ rfl _ rfl hSw.1 Vqa.out.len⟩) (by assumption) ?_
  try simp only [Act.put, List.setIfInBounds_toArray, List.set_cons_zero, List.set_cons_succ]
  refine wpAnyH_ready (rs := [46]) (by kernel_rfl) (by simp) ?_
  refine AllReadyH.cons (o := ⟨_, _, _, _, _, _⟩) rfl (fun K hK => ?_) AllReadyH.nil
  go_simp
  refine (KCs.out _ _ _ T.out.bel Vx.out).mono ?_
  rintro e w23 ⟨rfl, hb⟩
  replace T := Lib.hid (T.out.step hb)
  replace B1 := Lib.hid (B1.out.step hb)
  replace B2 := Lib.hid (B2.out.step hb)
  replace B3 := Lib.hid (B3.out.step hb)
  replace B4 := Lib.hid (B4.out.step hb)
  replace B5 := Lib.hid (B5.out.step hb)
  replace B6 := Lib.hid (B6.out.step hb)
  replace B7 := Lib.hid (B7.out.step hb)
  replace Vqa := Lib.hid (Vqa.out.step hb)
  replace Vqd := Lib.hid (Vqd.out.step hb)
  replace V3 := Lib.hid (V3.out.step hb)
  replace V5 := Lib.hid (V5.out.step hb)
  replace V8 := Lib.hid (V8.out.step hb)
  replace Vx := Lib.hid (Vx.out.step hb)
  replace Vy := Lib.hid (Vy.out.step hb)
  clear hb hHeld
  refine hK.out _ _ ⟨B1.out, B2.out, B3.out, B4.out, B5.out, B6.out, B7.out, (B4.out.c 3 _ Vqd.out.kind), (B1.out.c 3 _ Vqa.out.kind)⟩ (fun hHeld => ?_)
  clear hK K
  try simp only [Act.put, List.setIfInBounds_toArray, List.set_cons_zero, List.set_cons_succ]
  refine wpAnyH_ready (rs := [48]) (by kernel_rfl) (by simp) ?_
  refine AllReadyH.cons (o := ⟨_, _, _, _, _, _⟩) rfl (fun K hK => ?_) AllReadyH.nil
  go_simp
  refine (KCa.out _ _ _ T.out.bel Vqa.out).mono ?_
  rintro e w24 ⟨rfl, hb⟩
  replace T := Lib.hid (T.out.step hb)
  replace B1 := Lib.hid (B1.out.step hb)
  replace B2 := Lib.hid (B2.out.step hb)
  replace B3 := Lib.hid (B3.out.step hb)
  replace B4 := Lib.hid (B4.out.step hb)
  replace B5 := Lib.hid (B5.out.step hb)
  replace B6 := Lib.hid (B6.out.step hb)
  replace B7 := Lib.hid (B7.out.step hb)
  replace Vqa := Lib.hid (Vqa.out.step hb)
  replace Vqd := Lib.hid (Vqd.out.step hb)
  replace V3 := Lib.hid (V3.out.step hb)
  replace V5 := Lib.hid (V5.out.step hb)
  replace V8 := Lib.hid (V8.out.step hb)
  replace Vx := Lib.hid (Vx.out.step hb)
  replace Vy := Lib.hid (Vy.out.step hb)
  clear hb hHeld
  refine hK.out _ _ ⟨B1.out, B2.out, B3.out, B4.out, B5.out, B6.out, B7.out, (B4.out.c 3 _ Vqd.out.kind), (B1.out.c 3 _ Vqa.out.kind)⟩ (fun hHeld => ?_)
  clear hK K
  try simp only [Act.put, List.setIfInBounds_toArray, List.set_cons_zero, List.set_cons_succ]
  refine wpAnyH_take (i := 49) (oi := ⟨_, _, _, _, _, _⟩) (v := ?_) rfl (by kernel_rfl) (by kernel_rfl) (by kernel_rfl) (fun _ _ _ h => h) (Or.inl ⟨by rfl, ?_⟩) (by assumption) ?_
  rotate_left
  · intro wz hSw
    try dsimp only at hSw
    go_simp
    try with_reducible rfl
  try simp only [Act.put, List.setIfInBounds_toArray, List.set_cons_zero, List.set_cons_succ]
  refine wpAnyH_take (i := 50) (oi := ⟨_, _, _, _, _, _⟩) (v := ?_) rfl (by kernel_rfl) (by kernel_rfl) (by kernel_rfl) (fun _ _ _ h => h) (Or.inl ⟨by rfl, ?_⟩) (by assumption) ?_
  rotate_left
  · intro wz hSw
    try dsimp only at hSw
    go_simp
    try with_reducible rfl
  try simp only [Act.put, List.setIfInBounds_toArray, List.set_cons_zero, List.set_cons_succ]
  refine wpAnyH_take (i := 51) (oi := ⟨_, _, _, _, _, _⟩) (v := ?_) rfl (by kernel_rfl) (by kernel_rfl) (by kernel_rfl) (fun _ _ _ h => h) (Or.inl ⟨by rfl, ?_⟩) (by assumption) ?_
  rotate_left
  · intro wz hSw
    try dsimp only at hSw
    go_simp
    try with_reducible rfl
  try simp only [Act.put, List.setIfInBounds_toArray, List.set_cons_zero, List.set_cons_succ]
  refine wpAnyH_take (i := 52) (oi := ⟨_, _, _, _, _, _⟩) (v := .agg cs3.toArray) rfl (by kernel_rfl) (by kernel_rfl) (by kernel_rfl) (fun _ _ _ h => h) (Or.inl ⟨by rfl, fun wz hSw => Lk.act_run _ rfl _ rfl hSw.2.1 V3.out.len⟩) (by assumption) ?_
  try simp only [Act.put, List.setIfInBounds_toArray, List.set_cons_zero, List.set_cons_succ]
  refine wpAnyH_ready (rs := [53]) (by kernel_rfl) (by simp) ?_
  refine AllReadyH.cons (o := ⟨_, _, _, _, _, _⟩) rfl (fun K hK => ?_) AllReadyH.nil
  go_simp
  refine (KCb.out _ _ _ T.out.bel V3.out).mono ?_
  rintro e w25 ⟨rfl, hb⟩
  replace T := Lib.hid (T.out.step hb)
  replace B1 := Lib.hid (B1.out.step hb)
  replace B2 := Lib.hid (B2.out.step hb)
  replace B3 := Lib.hid (B3.out.step hb)
  replace B4 := Lib.hid (B4.out.step hb)
  replace B5 := Lib.hid (B5.out.step hb)
  replace B6 := Lib.hid (B6.out.step hb)
  replace B7 := Lib.hid (B7.out.step hb)
  replace Vqa := Lib.hid (Vqa.out.step hb)
  replace Vqd := Lib.hid (Vqd.out.step hb)
  replace V3 := Lib.hid (V3.out.step hb)
  replace V5 := Lib.hid (V5.out.step hb)
  replace V8 := Lib.hid (V8.out.step hb)
  replace Vx := Lib.hid (Vx.out.step hb)
  replace Vy := Lib.hid (Vy.out.step hb)
  clear hb hHeld
  refine hK.out _ _ ⟨B1.out, B2.out, B3.out, B4.out, B5.out, B6.out, B7.out, (B4.out.c 3 _ Vqd.out.kind), (B1.out.c 3 _ Vqa.out.kind)⟩ (fun hHeld => ?_)
  clear hK K
  try simp only [Act.put, List.setIfInBounds_toArray, List.set_cons_zero, List.set_cons_succ]
  refine wpAnyH_take (i := 54) (oi := ⟨_, _, _, _, _, _⟩) (v := ?_) rfl (by kernel_rfl) (by kernel_rfl) (by kernel_rfl) (fun _ _ _ h => h) (Or.inl ⟨by rfl, ?_⟩) (by assumption) ?_
  rotate_left
  · intro wz hSw
    try dsimp only at hSw
    go_simp
    try with_reducible rfl
  try simp only [Act.put, List.setIfInBounds_toArray, List.set_cons_zero, List.set_cons_succ]
  refine wpAnyH_take (i := 55) (oi := ⟨_, _, _, _, _, _⟩) (v := ?_) rfl (by kernel_rfl) (by kernel_rfl) (by kernel_rfl) (fun _ _ _ h => h) (Or.inl ⟨by rfl, ?_⟩) (by assumption) ?_
  rotate_left
  · intro wz hSw
    try dsimp only at hSw
    go_simp
    try with_reducible rfl
  try simp only [Act.put, List.setIfInBounds_toArray, List.set_cons_zero, List.set_cons_succ]
  refine wpAnyH_take (i := 56) (oi := ⟨_, _, _, _, _, _⟩) (v := ?_) rfl (by kernel_rfl) (by kernel_rfl) (by kernel_rfl) (fun _ _ _ h => h) (Or.inl ⟨by rfl, ?_⟩) (by assumption) ?_
  rotate_left
  · intro wz hSw
    try dsimp only at hSw
    go_simp
    try with_reducible rfl
  try simp only [Act.put, List.setIfInBounds_toArray, List.set_cons_zero]
  refine wpAnyH_done (by kernel_rfl) ?_ _
  clear hHeld
  go_wp2
  go_ret
  exact ⟨rfl, T.out.bel⟩
theorem small_any {keyOk : Int → Int → Bool} {sgn : Int → Int → Str → Int × Int} {ver : Int → Str → Int → Int → Bool} {W : World} (P : Pk keyOk sgn ver W) : Ok W 9 #[] (.bool true) := fun _ hb => small0 (P.at hb)
end Ax
end Go.Proofs.YtojbicpchjiplaaGreatDoor
