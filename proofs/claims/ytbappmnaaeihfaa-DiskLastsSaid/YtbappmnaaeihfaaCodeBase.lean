/-
  Layer 2 (code): words for memory, and the writer's putNum.
-/
import Derived.Test.YtbappmnaaeihfaaRows
import Derived.Test.YtbappmnaaeihfaaCodeDec
import Derived.WalkKit
import Derived.WalkSpells
import Derived.WalkLawsBesides
import Derived.Lib.Hide
import Derived.PlainAid
import Derived.Handy
import Derived.Deep.QuietTactic
import Derived.BigQuiet
import Derived.OwnWalk
import Derived.Laws.IdiomStrings
import Derived.Lib.AppendStr
namespace Go.Proofs.Ytbappmnaaeihfaa.S2
open Go.RowKit
open Cd

/-- The bytes as cells. -/
def U (l : List UInt8) : List Value := l.map fun b => Value.int .u8 b.toNat
/-- The string of these bytes. -/
def B (l : List UInt8) : ByteArray := ⟨l.toArray⟩
theorem B_of (s : ByteArray) : B s.data.toList = s := rfl
theorem U_length (l : List UInt8) : (U l).length = l.length := by simp [U]
theorem U_append (l r : List UInt8) : U (l ++ r) = U l ++ U r := by simp [U]
theorem U_B (l : List UInt8) : Lib.strCells (B l) = U l := rfl
theorem infoByte : (Try.prog.info? 5).map (fun i => (i.zero, i.size, i.bytes)) = some (some (.int .u8 0), 1, 1) := by kernel_rfl

/-- The call hands back a slice of its own that holds just these bytes; below 'base' all is as it was. -/
def BRes (base : Nat) (W : World) (l : List UInt8) (e : Ending) (w' : World) : Prop :=
  ∃ v, e = .returned v ∧ w'.ownsRow base 5 1 v l.length (U l) ∧ Below base W w'
theorem one_cell {w : World} {v : Value} {t : TypeId} : ∀ (j : Nat) (u : Value), [v][j]? = some u → (w.alloc (.cells #[v] t)).cell? ((⟨w.heap.size, 0, none⟩ : Addr).add j) = some u := by
  intro j u hj
  match j, hj with
  | 0, hj => simp at hj; subst hj; simp [Addr.add]
theorem own_cong {w : World} {base : Nat} {e : TypeId} {v : Value} {n m : Nat} {xs ys : List Value} (h : w.ownsRow base e 1 v n xs) (hn : n = m) (hx : xs = ys) : w.ownsRow base e 1 v m ys := by
  subst hn; subst hx; exact h

/-- What 'putNum's loop keeps. -/
def PN (base : Nat) (t : List UInt8) (w : World) (o m : Value) (wr : World) : Prop :=
  ∃ (j x : Nat) (q : List UInt8), m = .int .i64 (x : Int) ∧ j ≤ 8 ∧ x < 128 ^ (9 - j) ∧ q ++ vi (8 - j) x = t ∧ wr.ownsRow base 5 1 o q.length (U q) ∧ Below base w wr

theorem own_push {base : Nat} {w wr w1 : World} {o v' : Value} {q : List UInt8} {b : Nat} {y : Int} {c : Value} {t : TypeId} (hb8 : b < 256) (hy : y = (b : Int)) (hbase : base ≤ wr.heap.size)
    (hown : wr.ownsRow base 5 1 o q.length (U q)) (hb : Below base w wr) (hown' : w1.ownsRow base 5 1 v' (q.length + 1) (U q ++ [.int .u8 y])) (hg : (wr.alloc (.cells #[c] t)).grownBy w1 o.ownBlock) :
    w1.ownsRow base 5 1 v' (q ++ [UInt8.ofNat b]).length (U (q ++ [UInt8.ofNat b])) ∧ Below base w w1 := by
  subst hy
  refine ⟨own_cong hown' (by simp) ?_, (hb.alloc hbase _).grown hg (by simp; omega) (fun k hk => ((hown.alloc (.cells #[c] t)).lt k hk).1)⟩
  rw [U_append]
  congr 1
  simp only [U, List.map_cons, List.map_nil]
  rw [ofNat_toNat' _ hb8]

theorem pn_step {base : Nat} {t : List UInt8} {w w1 : World} {v' : Value} {x j : Nat} {q : List UInt8} (hx : 128 ≤ x) (hj : j ≤ 8) (hlt : x < 128 ^ (9 - j))
    (he : q ++ vi (8 - j) x = t) (R : w1.ownsRow base 5 1 v' (q ++ [UInt8.ofNat (x % 128 + 128)]).length (U (q ++ [UInt8.ofNat (x % 128 + 128)])) ∧ Below base w w1) :
    PN base t w v' (.int .i64 ((x : Int) / 128)) w1 := by
  have hj8 : j < 8 := by
    rcases Nat.lt_or_ge j 8 with h | h
    · exact h
    · have : j = 8 := by omega
      rw [this] at hlt
      omega
  refine ⟨j + 1, x / 128, q ++ [UInt8.ofNat (x % 128 + 128)], by simp, by omega, ?_, ?_, R.1, R.2⟩
  · have e : 9 - j = (9 - (j + 1)) + 1 := by omega
    rw [e, Nat.pow_succ] at hlt
    omega
  · have e : 8 - j = (8 - (j + 1)) + 1 := by omega
    rw [e, vi, if_neg (by omega)] at he
    rw [List.append_assoc]
    exact he

theorem pn_end {base : Nat} {t : List UInt8} {w w1 : World} {v' : Value} {x j : Nat} {q : List UInt8} (hx : x < 128) (he : q ++ vi (8 - j) x = t)
    (R : w1.ownsRow base 5 1 v' (q ++ [UInt8.ofNat x]).length (U (q ++ [UInt8.ofNat x])) ∧ Below base w w1) : BRes base w t (.returned v') w1 := by
  have e1 : ∀ k, vi k x = [UInt8.ofNat x] := fun k => by cases k <;> simp [vi, hx]
  rw [e1] at he
  subst he
  exact ⟨_, rfl, R⟩

end Go.Proofs.Ytbappmnaaeihfaa.S2
