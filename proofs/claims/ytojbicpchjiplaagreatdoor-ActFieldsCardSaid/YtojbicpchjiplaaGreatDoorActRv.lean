/-
  Layer 12: the landed Posting, Verify.
-/
import Derived.Test.YtojbicpchjiplaaGreatDoorActRe
import Derived.Test.YtojbicpchjiplaaGreatDoorSignFun
namespace Go.Proofs.YtojbicpchjiplaaGreatDoor
open Go.RowKit
namespace Ld
open Ax
open S11.Idt (Str isId isName ids)
attribute [local go_sem] S2.B_size S2.B_list S2.B_app S2.B_take litE
set_option maxHeartbeats 4000000 in
set_option maxRecDepth 100000 in
theorem posting_any (k : Int) (w : World) : Calls Tryz.prog 20 #[.int .i64 k] w fun x w' => x = .returned (.bool (posting k)) ∧ Below w.heap.size w w' := by
  by_cases h1 : k = 1
  · subst h1
    go_enter Tryz.func20, Tryz.ntmps20
    go_wp2
    go_ret
    exact ⟨rfl, Below.refl _ _⟩
  by_cases h2 : k = 2
  · subst h2
    go_enter Tryz.func20, Tryz.ntmps20
    go_wp2
    go_ret
    exact ⟨rfl, Below.refl _ _⟩
  by_cases h3 : k = 3
  · subst h3
    go_enter Tryz.func20, Tryz.ntmps20
    go_wp2
    go_ret
    exact ⟨rfl, Below.refl _ _⟩
  have t1 : (k == 1) = false := beq_eq_false_iff_ne.2 h1
  have t2 : (k == 2) = false := beq_eq_false_iff_ne.2 h2
  have t3 : (k == 3) = false := beq_eq_false_iff_ne.2 h3
  have hp : posting k = false := by
    cases h : posting k with
    | false => rfl
    | true => have := posting_of h; omega
  rw [hp]
  clear hp h1 h2 h3
  go_enter Tryz.func20, Tryz.ntmps20
  go_wp2
  go_ret
  exact ⟨rfl, Below.refl _ _⟩
set_option maxHeartbeats 4000000 in
set_option maxRecDepth 100000 in
theorem verify_no {bd : Nat} {cs : List Value} {a : Ac} {e s : Int} (p : Int) (w : World) (hv0 : Av w bd cs a e s) (hz : Sz 1000000 1000000 a) (hv : valid a e s = false) :
    Calls Tryz.prog 16 #[.int .i64 p, .agg cs.toArray] w fun x w' => x = .returned (.bool (valid a e s && S5.Sg.verV p (coreB a) e s)) ∧ Below w.heap.size w w' := by
  have T := Lib.hid (Lk.At.start w)
  have V := Lib.hid hv0
  have KC := fun (w : World) (bd : Nat) (h : Av w bd cs a e s) => core_any w h hz
  rw [show core a e s = [] from if_neg (by rw [hv]; decide)] at KC
  replace KC := Lib.hid KC
  rw [hv, Bool.false_and]
  clear hv0 hz hv
  go_enter Tryz.func16, Tryz.ntmps16
  replace T := Lib.hid (T.out.alloc (.cells cs.toArray 29))
  replace V := Lib.hid (V.out.alloc (.cells cs.toArray 29))
  have B1 := Lib.hid (show Lk.Bl (w.alloc (.cells cs.toArray 29)) w.heap.size cs 29 from by have h := Lk.Bl.new w cs 29; simpa using h)
  go_wp2_with (first | ((with_reducible refine Lk.ld (d := 6) w.heap.size B1.out V.out.len ?_ ?_ ?_); exact rfl; exact rfl) | fail)
  generalize w.alloc (.cells cs.toArray 29) = w1 at *
  refine (KC.out _ _ V.out).mono ?_
  rintro e w2 ⟨rfl, hb⟩
  replace T := Lib.hid (T.out.step hb)
  replace B1 := Lib.hid (B1.out.step hb)
  replace V := Lib.hid (V.out.step hb)
  clear hb
  go_wp2
  go_ret
  exact ⟨rfl, T.out.bel⟩
set_option maxHeartbeats 4000000 in
set_option maxRecDepth 100000 in
theorem verify_yes {bd : Nat} {cs : List Value} {a : Ac} {e s : Int} (p : Int) (w : World) (hv0 : Av w bd cs a e s) (hL : S3.Laid w) (hp : S4.isI64 p) (hv : valid a e s = true) :
    Calls Tryz.prog 16 #[.int .i64 p, .agg cs.toArray] w fun x w' => x = .returned (.bool (valid a e s && S5.Sg.verV p (coreB a) e s)) ∧ Below w.heap.size w w' := by
  have T := Lib.hid (Lk.At.start w)
  have V := Lib.hid hv0
  have hcl := core_le (lim_of (valid_good hv))
  have hcp := core_pos a
  have KC := fun (w : World) (bd : Nat) (h : Av w bd cs a e s) => core_yes w h hv
  rw [show core a e s = coreB a from if_pos hv] at KC
  have KV := fun (W : World) (hW : S3.Laid W) => S5.Sg.pver_ok W hW p e s (coreB a) hp (by omega) W (Below.refl _ _)
  obtain ⟨c, hc⟩ : ∃ x : Str, x = coreB a := ⟨_, rfl⟩
  rw [← hc] at KC hcp KV
  rw [hv, Bool.true_and, ← hc]
  obtain ⟨r, hr⟩ : ∃ r, r = S5.Sg.verV p c e s := ⟨_, rfl⟩
  rw [← hr] at KV
  rw [← hr]
  have hne : (c == []) = false := by
    cases c with
    | nil => simp at hcp
    | cons => rfl
  have hne2 : (c != []) = true := by rw [bne, hne]; rfl
  replace KC := Lib.hid KC
  replace KV := Lib.hid (show ∀ W, S3.Laid W → Calls Tryz.prog 27 #[.int .i64 p, .string (S2.B c), .agg #[.int .i64 e, .int .i64 s]] W fun x w' => x = .returned (.bool r) ∧ Below W.heap.size W w' from KV)
  have HL := Lib.hid hL
  clear hv0 hv hcl hcp hc hr hp hL
  go_enter Tryz.func16, Tryz.ntmps16
  replace T := Lib.hid (T.out.alloc (.cells cs.toArray 29))
  replace V := Lib.hid (V.out.alloc (.cells cs.toArray 29))
  have B1 := Lib.hid (show Lk.Bl (w.alloc (.cells cs.toArray 29)) w.heap.size cs 29 from by have h := Lk.Bl.new w cs 29; simpa using h)
  go_wp2_with (first | ((with_reducible refine Lk.ld (d := 6) w.heap.size B1.out V.out.len ?_ ?_ ?_); exact rfl; exact rfl) | fail)
  generalize w.alloc (.cells cs.toArray 29) = w1 at *
  refine (KC.out _ _ V.out).mono ?_
  rintro e w2 ⟨rfl, hb⟩
  replace T := Lib.hid (T.out.step hb)
  replace B1 := Lib.hid (B1.out.step hb)
  replace V := Lib.hid (V.out.step hb)
  clear hb
  have cB1_18 := B1.out.c 18 _ V.out.sigE
  have cB1_19 := B1.out.c 19 _ V.out.sigS
  go_wp2_with (first | fail)
  clear cB1_18 cB1_19
  refine (KV.out _ (S5.Sg.laid_below HL.out T.out.bel)).mono ?_
  rintro e w3 ⟨rfl, hb⟩
  replace T := Lib.hid (T.out.step hb)
  replace B1 := Lib.hid (B1.out.step hb)
  replace V := Lib.hid (V.out.step hb)
  clear hb
  go_wp2
  go_ret
  exact ⟨rfl, T.out.bel⟩
theorem verify_any {bd : Nat} {cs : List Value} {a : Ac} {e s : Int} (p : Int) (w : World) (hL : S3.Laid w) (hp : S4.isI64 p) (hv0 : Av w bd cs a e s) (hz : Sz 1000000 1000000 a) :
    Calls Tryz.prog 16 #[.int .i64 p, .agg cs.toArray] w fun x w' => x = .returned (.bool (valid a e s && S5.Sg.verV p (coreB a) e s)) ∧ Below w.heap.size w w' := by
  cases hv : valid a e s with
  | false => rw [← hv]; exact verify_no p w hv0 hz hv
  | true => rw [← hv]; exact verify_yes p w hv0 hL hp hv
end Ld
end Go.Proofs.YtojbicpchjiplaaGreatDoor
