/-
  Layer 5: what the package's functions are to hand back (proved of the landed code elsewhere), and the numbers of the law's own small example.
-/
import Derived.Test.YtlcgcpjhmbbgfaaDoorSignRef5
namespace Go.Proofs.YtlcgcpjhmbbgfaaDoor
open Go.RowKit
namespace Sg

/-- The package's functions, in a world that is laid. -/
structure Prg (W : World) : Prop where
  key : ∀ s : List UInt8, s.length ≤ 2000 → Ok W 11 #[.string (S3.B s)] (keyC (keyV s))
  of : ∀ x : Int, isI x → Ok W 12 #[.int .i64 x] (keyC (ofV x))
  right : ∀ x y : Int, isI x → isI y → Ok W 15 #[.agg #[.int .i64 x, .int .i64 y]] (.bool (decide (Rt x y)))
  sign : ∀ (x y : Int) (m : List UInt8), isI x → isI y → m.length ≤ 2000 → Ok W 17 #[.agg #[.int .i64 x, .int .i64 y], .string (S3.B m)] (keyC (signV x y m))
  ver : ∀ (y : Int) (m : List UInt8) (E S : Int), isI y → isI E → isI S → m.length ≤ 2000 → Ok W 19 #[.int .i64 y, .string (S3.B m), .agg #[.int .i64 E, .int .i64 S]] (.bool (verV y m E S))
def Landed : Prop := ∀ W : World, S3.Laid W → Prg W
theorem laid_below {W w : World} (hW : S3.Laid W) (h : Below W.heap.size W w) : S3.Laid w := by
  obtain ⟨h1, ⟨t, fr, h2⟩, h3, h4⟩ := hW
  exact ⟨fun j hj => (h.cell (p := ⟨1, j, none⟩) h3).trans (h1 j hj), ⟨t, fr, (h.block _ h4).trans h2⟩, Nat.lt_of_lt_of_le h3 h.size, Nat.lt_of_lt_of_le h4 h.size⟩

/-! ### The example's numbers -/
theorem pow_lit (x k : Nat) (a e : Int) (r : Nat) (hx : a % 2305843009213693951 = x) (hk : S4.expo e = k) (hb : k < 2 ^ 62) (hr : S4.Gp.powm 2305843009213693951 x 62 k = r) : S4.powP a e = r := by
  rw [S4.powP, hx, hk, ← hr, S4.Gp.powm_eq _ _ _ _ hb, Int.toNat_natCast]
theorem exA : sec (keyS [97]) = 361080046605472372 := by decide +kernel
theorem exB : sec (keyS [98]) = 1665904801392939367 := by decide +kernel
theorem exPA : pub 361080046605472372 = 2287805972299522828 := pow_lit 37 361080046605472372 37 361080046605472372 _ (by decide) (by decide) (by decide) (by decide +kernel)
theorem exPB : pub 1665904801392939367 = 1434973371253446507 := pow_lit 37 1665904801392939367 37 1665904801392939367 _ (by decide) (by decide) (by decide) (by decide +kernel)
theorem exU : non 361080046605472372 [104, 101, 108, 108, 111] = 231426264826419728 := by decide +kernel
theorem exR : pub 231426264826419728 = 945913668753777992 := pow_lit 37 231426264826419728 37 231426264826419728 _ (by decide) (by decide) (by decide) (by decide +kernel)
theorem exE : chal 945913668753777992 2287805972299522828 [104, 101, 108, 108, 111] = 1639541138904410090 := by decide +kernel
theorem exE2 : chal 945913668753777992 2287805972299522828 [104, 97, 108, 108, 111] = 2013795054579309619 := by decide +kernel
theorem exC1 : pub 82534835673623458 = 1167651469613788076 := pow_lit 37 82534835673623458 37 82534835673623458 _ (by decide) (by decide) (by decide) (by decide +kernel)
theorem exC2 : S4.powP 1434973371253446507 666301870309283860 = 1974503328329847405 := pow_lit 1434973371253446507 666301870309283860 1434973371253446507 666301870309283860 _ (by decide) (by decide) (by decide) (by decide +kernel)
theorem exE3 : chal 2103513941146206428 1434973371253446507 [104, 101, 108, 108, 111] = 537663025673813787 := by decide +kernel
theorem exKey : keyV [97] = (361080046605472372, 2287805972299522828) := by
  unfold keyV
  rw [exA]
  unfold ofV
  rw [if_pos (by decide)]
  show ((361080046605472372 : Int), ((pub 361080046605472372 : Nat) : Int)) = _
  rw [exPA]; rfl
theorem exKeyB : keyV [98] = (1665904801392939367, 1434973371253446507) := by
  unfold keyV
  rw [exB]
  unfold ofV
  rw [if_pos (by decide)]
  show ((1665904801392939367 : Int), ((pub 1665904801392939367 : Nat) : Int)) = _
  rw [exPB]; rfl
theorem exRt : Rt 361080046605472372 2287805972299522828 := ⟨by decide, by decide, by rw [exPA]; rfl⟩
theorem exSig : signV 361080046605472372 2287805972299522828 [104, 101, 108, 108, 111] = (1639541138904410090, 82534835673623458) := by
  unfold signV
  rw [if_pos exRt, exU]
  have h1 : chal ((pub ((231426264826419728 : Nat) : Int) : Nat) : Int) 2287805972299522828 [104, 101, 108, 108, 111] = 1639541138904410090 := by
    rw [show ((231426264826419728 : Nat) : Int) = 231426264826419728 from rfl, exR]
    exact exE
  unfold sigU
  rw [h1]
  refine Prod.ext ?_ ?_
  · rfl
  · show (((231426264826419728 : Nat) : Int) + ((1639541138904410090 : Nat) : Int) * 361080046605472372 % 2305843009213693950) % 2305843009213693950 = 82534835673623458
    decide
theorem exV1 : verV 2287805972299522828 [104, 101, 108, 108, 111] 1639541138904410090 82534835673623458 = true := by
  have h := sig_holds 361080046605472372 2287805972299522828 231426264826419728 [104, 101, 108, 108, 111] exRt
  have e := exSig
  unfold signV at e
  rw [if_pos exRt, exU] at e
  rw [show ((231426264826419728 : Nat) : Int) = 231426264826419728 from rfl] at e
  rw [e] at h
  exact h
theorem exComm : comm 2287805972299522828 1639541138904410090 82534835673623458 = 945913668753777992 := by
  have h := comm_of 361080046605472372 231426264826419728 1639541138904410090
  rw [exPA, exR] at h
  exact h
theorem exV2 : verV 2287805972299522828 [104, 97, 108, 108, 111] 1639541138904410090 82534835673623458 = false := by
  unfold verV
  rw [exComm, exE2]
  decide
theorem exV3 : verV 1434973371253446507 [104, 101, 108, 108, 111] 1639541138904410090 82534835673623458 = false := by
  have h : comm 1434973371253446507 1639541138904410090 82534835673623458 = 2103513941146206428 := by
    unfold comm
    rw [exC1, show (2305843009213693950 : Int) - 1639541138904410090 = 666301870309283860 from rfl, exC2]
    rfl
  unfold verV
  rw [h, exE3]
  decide
end Sg
end Go.Proofs.YtlcgcpjhmbbgfaaDoor
