/-
  Layer 12: the landed package is what the laws ask of it.
-/
import Derived.Test.YtojbicpchjiplaaGreatDoorActRv
import Derived.Test.YtojbicpchjiplaaGreatDoorActRw
import Derived.Test.YtojbicpchjiplaaGreatDoorActRg
import Derived.Test.YtojbicpchjiplaaGreatDoorActSmall
import Derived.Test.YtojbicpchjiplaaGreatDoorSignLaw2
namespace Go.Proofs.YtojbicpchjiplaaGreatDoor
open Go.RowKit
namespace Ld
open Ax
open S11.Idt (Str isId isName ids)
theorem sgn_sg : Sg (fun k p => decide (S5.Sg.Rt k p)) S5.Sg.signV S5.Sg.verV where
  range s p m h := by
    have hr := S5.Sg.signV_range m (of_decide_eq_true h)
    simp only [sigOk, Bool.and_eq_true, decide_eq_true_eq]
    exact ⟨⟨hr.1, hr.2.1⟩, hr.2.2.1, hr.2.2.2⟩
  holds s p m h := S5.Sg.signV_holds m (of_decide_eq_true h)
  one := by
    have h : S5.Sg.pub 1 = 37 := S5.Sg.pow_lit 37 1 37 1 37 (by decide) (by decide) (by decide) (by decide +kernel)
    exact decide_eq_true ⟨by decide, by decide, by rw [h]; rfl⟩
theorem pk (W : World) (hW : S3.Laid W) : Pk (fun k p => decide (S5.Sg.Rt k p)) S5.Sg.signV S5.Sg.verV W where
  sg := sgn_sg
  right a e s A nA cA Q nQ cQ w _ hp hz := by rw [vA_eq]; exact right_any w (Av.arg hp) hz
  posting k w _ := posting_any k w
  core a e s A nA cA Q nQ cQ w _ hp hz := by rw [vA_eq]; exact core_any w (Av.arg hp) hz
  bytes a e s A nA cA Q nQ cQ w _ hp hz := by rw [vA_eq]; exact bytes_any w (Av.arg hp) hz
  read t a e s ok hr ht w _ := (read_any hr w ht).mono fun x w' ⟨cs, h1, h2, h3⟩ => by
    obtain ⟨A, nA, cA, Q, nQ, cQ, rfl, hp⟩ := h2
    exact ⟨A, nA, cA, Q, nQ, cQ, h1, hp, h3⟩
  sign k p a e s A nA cA Q nQ cQ w hk hq hb hp hz := by
    rw [vA_eq]
    refine (sign_any k p w (S5.Sg.laid_below hW hb) hk hq (Av.arg hp) hz).mono fun x w' ⟨cs, h1, h2, h3⟩ => ?_
    obtain ⟨A, nA, cA, Q, nQ, cQ, rfl, hp⟩ := h2
    exact ⟨A, nA, cA, Q, nQ, cQ, h1, hp, h3⟩
  verify p a e s A nA cA Q nQ cQ w hq hb hp hz := by rw [vA_eq]; exact verify_any p w (S5.Sg.laid_below hW hb) hq (Av.arg hp) hz
  same a b e s e' s' A nA cA Q nQ cQ A' nA' cA' Q' nQ' cQ' r w _ hp hp' hz hz' hr := by rw [vA_eq, vA_eq]; exact same_any r w (Av.arg hp) (Av.arg hp') hz hz' hr
  keyR k p hk _ w _ := S5.Sg.pright_ok w k p hk w (Below.refl _ _)
  verR p m e s hq hm _ w hb := S5.Sg.pver_ok w (S5.Sg.laid_below hW hb) p e s m hq hm w (Below.refl _ _)
  idR l hl w _ := S11.Idt.right_any l w (by omega)
  nameR l hl w _ := S11.Idt.name_any l w (by omega)
  idsR A l n c w _ hn hr hn2 hs := S11.Idt.ids_any A l n c w hn hr (by omega) (fun s h => by have := hs s h; omega)
theorem small_ok (W : World) (hW : S3.Laid W) : Ok W 9 #[] (.bool true) := small_any (pk W hW)
end Ld
end Go.Proofs.YtojbicpchjiplaaGreatDoor
