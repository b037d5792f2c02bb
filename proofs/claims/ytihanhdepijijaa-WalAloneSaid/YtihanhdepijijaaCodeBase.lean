/-
  Layer 2 (code): words for memory, and the writer's putNum.
-/
import Derived.Test.YtihanhdepijijaaRows
import Derived.Test.YtihanhdepijijaaCodeDec
import Derived.WalkKit
import Derived.WalkSpells
import Derived.WalkLawsBesides
import Derived.Lib.Hide
import Derived.PlainAid
import Derived.Handy
import Derived.Deep.QuietTactic
import Derived.BigQuiet
import Derived.OwnWalk
import Derived.Laws.IdiomStrings
import Derived.Lib.AppendStr
namespace Go.Proofs.Ytihanhdepijijaa.S2
open Go.RowKit
open Cd

/-- The bytes as cells. -/
def U (l : List UInt8) : List Value := l.map fun b => Value.int .u8 b.toNat
/-- The string of these bytes. -/
def B (l : List UInt8) : ByteArray := ⟨l.toArray⟩
theorem B_of (s : ByteArray) : B s.data.toList = s := rfl
theorem U_length (l : List UInt8) : (U l).length = l.length := by simp [U]
theorem U_append (l r : List UInt8) : U (l ++ r) = U l ++ U r := by simp [U]
theorem U_B (l : List UInt8) : Lib.strCells (B l) = U l := rfl
theorem infoByte : (Try.prog.info? 5).map (fun i => (i.zero, i.size, i.bytes)) = some (some (.int .u8 0), 1, 1) := by kernel_rfl

/-- The call hands back a slice of its own that holds just these bytes; below 'base' all is as it was. -/
def BRes (base : Nat) (W : World) (l : List UInt8) (e : Ending) (w' : World) : Prop :=
  ∃ v, e = .returned v ∧ w'.ownsRow base 5 1 v l.length (U l) ∧ Below base W w'
theorem one_cell {w : World} {v : Value} {t : TypeId} : ∀ (j : Nat) (u : Value), [v][j]? = some u → (w.alloc (.cells #[v] t)).cell? ((⟨w.heap.size, 0, none⟩ : Addr).add j) = some u := by
  intro j u hj
  match j, hj with
  | 0, hj => simp at hj; subst hj; simp [Addr.add]
theorem own_cong {w : World} {base : Nat} {e : TypeId} {v : Value} {n m : Nat} {xs ys : List Value} (h : w.ownsRow base e 1 v n xs) (hn : n = m) (hx : xs = ys) : w.ownsRow base e 1 v m ys := by
  subst hn; subst hx; exact h

/-- What 'putNum's loop keeps. -/
def PN (base : Nat) (t : List UInt8) (w : World) (o m : Value) (wr : World) : Prop :=
  ∃ (j x : Nat) (q : List UInt8), m = .int .i64 (x : Int) ∧ j ≤ 8 ∧ x < 128 ^ (9 - j) ∧ q ++ vi (8 - j) x = t ∧ wr.ownsRow base 5 1 o q.length (U q) ∧ Below base w wr

theorem own_push {base : Nat} {w wr w1 : World} {o v' : Value} {q : List UInt8} {b : Nat} {y : Int} {c : Value} {t : TypeId} (hb8 : b < 256) (hy : y = (b : Int)) (hbase : base ≤ wr.heap.size)
    (hown : wr.ownsRow base 5 1 o q.length (U q)) (hb : Below base w wr) (hown' : w1.ownsRow base 5 1 v' (q.length + 1) (U q ++ [.int .u8 y])) (hg : (wr.alloc (.cells #[c] t)).grownBy w1 o.ownBlock) :
    w1.ownsRow base 5 1 v' (q ++ [UInt8.ofNat b]).length (U (q ++ [UInt8.ofNat b])) ∧ Below base w w1 := by
  subst hy
  refine ⟨own_cong hown' (by simp) ?_, (hb.alloc hbase _).grown hg (by simp; omega) (fun k hk => ((hown.alloc (.cells #[c] t)).lt k hk).1)⟩
  rw [U_append]
  congr 1
  simp only [U, List.map_cons, List.map_nil]
  rw [ofNat_toNat' _ hb8]

theorem pn_step {base : Nat} {t : List UInt8} {w w1 : World} {v' : Value} {x j : Nat} {q : List UInt8} (hx : 128 ≤ x) (hj : j ≤ 8) (hlt : x < 128 ^ (9 - j))
    (he : q ++ vi (8 - j) x = t) (R : w1.ownsRow base 5 1 v' (q ++ [UInt8.ofNat (x % 128 + 128)]).length (U (q ++ [UInt8.ofNat (x % 128 + 128)])) ∧ Below base w w1) :
    PN base t w v' (.int .i64 ((x : Int) / 128)) w1 := by
  have hj8 : j < 8 := by
    rcases Nat.lt_or_ge j 8 with h | h
    · exact h
    · have : j = 8 := by omega
      rw [this] at hlt
      omega
  refine ⟨j + 1, x / 128, q ++ [UInt8.ofNat (x % 128 + 128)], by simp, by omega, ?_, ?_, R.1, R.2⟩
  · have e : 9 - j = (9 - (j + 1)) + 1 := by omega
    rw [e, Nat.pow_succ] at hlt
    omega
  · have e : 8 - j = (8 - (j + 1)) + 1 := by omega
    rw [e, vi, if_neg (by omega)] at he
    rw [List.append_assoc]
    exact he

theorem pn_end {base : Nat} {t : List UInt8} {w w1 : World} {v' : Value} {x j : Nat} {q : List UInt8} (hx : x < 128) (he : q ++ vi (8 - j) x = t)
    (R : w1.ownsRow base 5 1 v' (q ++ [UInt8.ofNat x]).length (U (q ++ [UInt8.ofNat x])) ∧ Below base w w1) : BRes base w t (.returned v') w1 := by
  have e1 : ∀ k, vi k x = [UInt8.ofNat x] := fun k => by cases k <;> simp [vi, hx]
  rw [e1] at he
  subst he
  exact ⟨_, rfl, R⟩

set_option maxHeartbeats 400000 in
set_option maxRecDepth 100000 in
theorem putNum_any (base : Nat) (l : List UInt8) (v : Value) (n : Nat) (w : World) (hb : base ≤ w.heap.size) (hown : w.ownsRow base 5 1 v l.length (U l)) (hl : l.length ≤ 1099511627776) (hn : n < 9223372036854775808) :
    Calls Try.prog 59 #[v, .int .i64 (n : Int)] w (BRes base w (l ++ encN n)) := by
  obtain ⟨i0, hi, hz0, hz1, hz2⟩ := info_parts infoByte
  have h0 : (0 : Int) ≤ n := by omega
  have h1 : (n : Int) ≤ 9223372036854775807 := by omega
  obtain ⟨t, ht⟩ : ∃ t, t = l ++ encN n := ⟨_, rfl⟩
  have htl : t.length ≤ 1099511627785 := by rw [ht, List.length_append]; have := encN_len n; omega
  have start : PN base t w v (.int .i64 (n : Int)) w := ⟨0, n, l, rfl, by omega, by simpa using hn, by rw [ht]; rfl, hown, Below.refl _ _⟩
  rw [← ht]
  clear ht hn hown hl
  go_enter Try.func59, Try.ntmps59
  go_wp2
  go_loopw [0, 1] (fun o m wr => PN base t w o m wr) (fun _ m _ => (intOf m).toNat)
  case atStart => exact start
  case round =>
    obtain ⟨j, x, q, rfl, hj, hlt, he, hown, hbel⟩ := hrel
    have hbase : base ≤ wr.heap.size := Nat.le_trans hb hbel.size
    have hx9 : x < 9223372036854775808 := Nat.lt_of_lt_of_le hlt (Nat.le_trans (Nat.pow_le_pow_right (by omega) (show 9 - j ≤ 9 by omega)) (by decide))
    have hx0 : (0 : Int) ≤ x := by omega
    have hx1 : (x : Int) ≤ 9223372036854775807 := by omega
    have hll : q.length ≤ 1099511627785 := by rw [← he, List.length_append] at htl; omega
    have HE := Lib.hid he
    have HL := Lib.hid hlt
    have HT := Lib.hid htl
    clear he hlt hx9 htl
    by_cases hc : 128 ≤ x
    · have hc' : (128 : Int) ≤ x := by omega
      go_wp2_with (at_builtin; refine wpList_append_own _ rfl _ _ 58 rfl base 5 i0 (.int .u8 0) 1 1 Try.underlying58 hi hz0 hz1 hz2 rfl (by decide) _ _ _ rfl (hown.alloc _) ⟨wr.heap.size, 0, none⟩ 1 1 [.int .u8 ((x : Int) % 128 + 128)] rfl rfl one_cell (fun u hu => by simp at hu; subst hu; rfl) (by unfold maxLen; omega) (by omega) (by simp; omega) ?_)
      intro v' w1 hown' hgrow _
      have R := pn_step hc hj HL.out HE.out (own_push (by omega) (by simp) hbase hown hbel hown' hgrow)
      clear hown' hgrow hown
      go_wp2
      go_roundw
      case rel => exact R
      case measure => simp [intOf]; omega
    · have hc' : (x : Int) < 128 := by omega
      go_wp2_with (at_builtin; refine wpList_append_own _ rfl _ _ 58 rfl base 5 i0 (.int .u8 0) 1 1 Try.underlying58 hi hz0 hz1 hz2 rfl (by decide) _ _ _ rfl (hown.alloc _) ⟨wr.heap.size, 0, none⟩ 1 1 [.int .u8 (x : Int)] rfl rfl one_cell (fun u hu => by simp at hu; subst hu; rfl) (by unfold maxLen; omega) (by omega) (by simp; omega) ?_)
      intro v' w1 hown' hgrow _
      have R := pn_end (by omega) HE.out (own_push (by omega) rfl hbase hown hbel hown' hgrow)
      clear hown' hgrow hown
      go_wp2
      go_ret
      exact R
end Go.Proofs.Ytihanhdepijijaa.S2
