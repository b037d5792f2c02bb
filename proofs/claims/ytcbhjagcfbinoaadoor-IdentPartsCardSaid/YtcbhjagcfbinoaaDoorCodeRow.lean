/-
  CodeBase, CodeRow: joined.
-/
import Derived.Test.YtcbhjagcfbinoaaDoorRows
import Derived.Test.YtcbhjagcfbinoaaDoorCodeDec
import Derived.WalkKit
import Derived.WalkSpells
import Derived.WalkLawsBesides
import Derived.Lib.Hide
import Derived.PlainAid
import Derived.Handy
import Derived.Deep.QuietTactic
import Derived.BigQuiet
import Derived.OwnWalk
import Derived.Laws.IdiomStrings
import Derived.Lib.AppendStr
/-
  Layer 2 (code): words for memory, and the writer's putNum.
-/
namespace Go.Proofs.YtcbhjagcfbinoaaDoor.S2
open Go.RowKit
open Cd

/-- The bytes as cells. -/
def U (l : List UInt8) : List Value := l.map fun b => Value.int .u8 b.toNat
/-- The string of these bytes. -/
def B (l : List UInt8) : ByteArray := ⟨l.toArray⟩
theorem B_of (s : ByteArray) : B s.data.toList = s := rfl
theorem U_length (l : List UInt8) : (U l).length = l.length := by simp [U]
theorem U_append (l r : List UInt8) : U (l ++ r) = U l ++ U r := by simp [U]
theorem U_B (l : List UInt8) : Lib.strCells (B l) = U l := rfl
theorem infoByte : (Tryd.prog.info? 5).map (fun i => (i.zero, i.size, i.bytes)) = some (some (.int .u8 0), 1, 1) := by kernel_rfl

/-- The call hands back a slice of its own that holds just these bytes; below 'base' all is as it was. -/
def BRes (base : Nat) (W : World) (l : List UInt8) (e : Ending) (w' : World) : Prop :=
  ∃ v, e = .returned v ∧ w'.ownsRow base 5 1 v l.length (U l) ∧ Below base W w'
theorem one_cell {w : World} {v : Value} {t : TypeId} : ∀ (j : Nat) (u : Value), [v][j]? = some u → (w.alloc (.cells #[v] t)).cell? ((⟨w.heap.size, 0, none⟩ : Addr).add j) = some u := by
  intro j u hj
  match j, hj with
  | 0, hj => simp at hj; subst hj; simp [Addr.add]
theorem own_cong {w : World} {base : Nat} {e : TypeId} {v : Value} {n m : Nat} {xs ys : List Value} (h : w.ownsRow base e 1 v n xs) (hn : n = m) (hx : xs = ys) : w.ownsRow base e 1 v m ys := by
  subst hn; subst hx; exact h

/-- What 'putNum's loop keeps. -/
def PN (base : Nat) (t : List UInt8) (w : World) (o m : Value) (wr : World) : Prop :=
  ∃ (j x : Nat) (q : List UInt8), m = .int .i64 (x : Int) ∧ j ≤ 8 ∧ x < 128 ^ (9 - j) ∧ q ++ vi (8 - j) x = t ∧ wr.ownsRow base 5 1 o q.length (U q) ∧ Below base w wr

theorem own_push {base : Nat} {w wr w1 : World} {o v' : Value} {q : List UInt8} {b : Nat} {y : Int} {c : Value} {t : TypeId} (hb8 : b < 256) (hy : y = (b : Int)) (hbase : base ≤ wr.heap.size)
    (hown : wr.ownsRow base 5 1 o q.length (U q)) (hb : Below base w wr) (hown' : w1.ownsRow base 5 1 v' (q.length + 1) (U q ++ [.int .u8 y])) (hg : (wr.alloc (.cells #[c] t)).grownBy w1 o.ownBlock) :
    w1.ownsRow base 5 1 v' (q ++ [UInt8.ofNat b]).length (U (q ++ [UInt8.ofNat b])) ∧ Below base w w1 := by
  subst hy
  refine ⟨own_cong hown' (by simp) ?_, (hb.alloc hbase _).grown hg (by simp; omega) (fun k hk => ((hown.alloc (.cells #[c] t)).lt k hk).1)⟩
  rw [U_append]
  congr 1
  simp only [U, List.map_cons, List.map_nil]
  rw [ofNat_toNat' _ hb8]

theorem pn_step {base : Nat} {t : List UInt8} {w w1 : World} {v' : Value} {x j : Nat} {q : List UInt8} (hx : 128 ≤ x) (hj : j ≤ 8) (hlt : x < 128 ^ (9 - j))
    (he : q ++ vi (8 - j) x = t) (R : w1.ownsRow base 5 1 v' (q ++ [UInt8.ofNat (x % 128 + 128)]).length (U (q ++ [UInt8.ofNat (x % 128 + 128)])) ∧ Below base w w1) :
    PN base t w v' (.int .i64 ((x : Int) / 128)) w1 := by
  have hj8 : j < 8 := by
    rcases Nat.lt_or_ge j 8 with h | h
    · exact h
    · have : j = 8 := by omega
      rw [this] at hlt
      omega
  refine ⟨j + 1, x / 128, q ++ [UInt8.ofNat (x % 128 + 128)], by simp, by omega, ?_, ?_, R.1, R.2⟩
  · have e : 9 - j = (9 - (j + 1)) + 1 := by omega
    rw [e, Nat.pow_succ] at hlt
    omega
  · have e : 8 - j = (8 - (j + 1)) + 1 := by omega
    rw [e, vi, if_neg (by omega)] at he
    rw [List.append_assoc]
    exact he

theorem pn_end {base : Nat} {t : List UInt8} {w w1 : World} {v' : Value} {x j : Nat} {q : List UInt8} (hx : x < 128) (he : q ++ vi (8 - j) x = t)
    (R : w1.ownsRow base 5 1 v' (q ++ [UInt8.ofNat x]).length (U (q ++ [UInt8.ofNat x])) ∧ Below base w w1) : BRes base w t (.returned v') w1 := by
  have e1 : ∀ k, vi k x = [UInt8.ofNat x] := fun k => by cases k <;> simp [vi, hx]
  rw [e1] at he
  subst he
  exact ⟨_, rfl, R⟩

set_option maxHeartbeats 400000 in
set_option maxRecDepth 100000 in
theorem putNum_any (base : Nat) (l : List UInt8) (v : Value) (n : Nat) (w : World) (hb : base ≤ w.heap.size) (hown : w.ownsRow base 5 1 v l.length (U l)) (hl : l.length ≤ 1099511627776) (hn : n < 9223372036854775808) :
    Calls Tryd.prog 41 #[v, .int .i64 (n : Int)] w (BRes base w (l ++ encN n)) := by
  obtain ⟨i0, hi, hz0, hz1, hz2⟩ := info_parts infoByte
  have h0 : (0 : Int) ≤ n := by omega
  have h1 : (n : Int) ≤ 9223372036854775807 := by omega
  obtain ⟨t, ht⟩ : ∃ t, t = l ++ encN n := ⟨_, rfl⟩
  have htl : t.length ≤ 1099511627785 := by rw [ht, List.length_append]; have := encN_len n; omega
  have start : PN base t w v (.int .i64 (n : Int)) w := ⟨0, n, l, rfl, by omega, by simpa using hn, by rw [ht]; rfl, hown, Below.refl _ _⟩
  rw [← ht]
  clear ht hn hown hl
  go_enter Tryd.func41, Tryd.ntmps41
  go_wp2
  go_loopw [0, 1] (fun o m wr => PN base t w o m wr) (fun _ m _ => (intOf m).toNat)
  case atStart => exact start
  case round =>
    obtain ⟨j, x, q, rfl, hj, hlt, he, hown, hbel⟩ := hrel
    have hbase : base ≤ wr.heap.size := Nat.le_trans hb hbel.size
    have hx9 : x < 9223372036854775808 := Nat.lt_of_lt_of_le hlt (Nat.le_trans (Nat.pow_le_pow_right (by omega) (show 9 - j ≤ 9 by omega)) (by decide))
    have hx0 : (0 : Int) ≤ x := by omega
    have hx1 : (x : Int) ≤ 9223372036854775807 := by omega
    have hll : q.length ≤ 1099511627785 := by rw [← he, List.length_append] at htl; omega
    have HE := Lib.hid he
    have HL := Lib.hid hlt
    have HT := Lib.hid htl
    clear he hlt hx9 htl
    by_cases hc : 128 ≤ x
    · have hc' : (128 : Int) ≤ x := by omega
      go_wp2_with (at_builtin; refine wpList_append_own _ rfl _ _ 48 rfl base 5 i0 (.int .u8 0) 1 1 Tryd.underlying48 hi hz0 hz1 hz2 rfl (by decide) _ _ _ rfl (hown.alloc _) ⟨wr.heap.size, 0, none⟩ 1 1 [.int .u8 ((x : Int) % 128 + 128)] rfl rfl one_cell (fun u hu => by simp at hu; subst hu; rfl) (by unfold maxLen; omega) (by omega) (by simp; omega) ?_)
      intro v' w1 hown' hgrow _
      have R := pn_step hc hj HL.out HE.out (own_push (by omega) (by simp) hbase hown hbel hown' hgrow)
      clear hown' hgrow hown
      go_wp2
      go_roundw
      case rel => exact R
      case measure => simp [intOf]; omega
    · have hc' : (x : Int) < 128 := by omega
      go_wp2_with (at_builtin; refine wpList_append_own _ rfl _ _ 48 rfl base 5 i0 (.int .u8 0) 1 1 Tryd.underlying48 hi hz0 hz1 hz2 rfl (by decide) _ _ _ rfl (hown.alloc _) ⟨wr.heap.size, 0, none⟩ 1 1 [.int .u8 (x : Int)] rfl rfl one_cell (fun u hu => by simp at hu; subst hu; rfl) (by unfold maxLen; omega) (by omega) (by simp; omega) ?_)
      intro v' w1 hown' hgrow _
      have R := pn_end (by omega) HE.out (own_push (by omega) rfl hbase hown hbel hown' hgrow)
      clear hown' hgrow hown
      go_wp2
      go_ret
      exact R
end Go.Proofs.YtcbhjagcfbinoaaDoor.S2

/-
  Layer 2 (code): a slice that came in or was handed on, read as a list; the conversions between strings and bytes.
-/
namespace Go.Proofs.YtcbhjagcfbinoaaDoor.S2
open Go.RowKit
open Cd

theorem add_block (a : Addr) (n : Nat) : (a.add n).block = a.block := by unfold Addr.add; split <;> rfl
/-- The slice value of address A holds the cells xs, below block number bd. -/
def Row (w : World) (bd : Nat) (A : Option Addr) (xs : List Value) : Prop :=
  xs = [] ∨ ∃ a, A = some a ∧ a.block < bd ∧ ∀ j u, xs[j]? = some u → w.cell? (a.add j) = some u
theorem Row.below {w w' : World} {bd : Nat} {A : Option Addr} {xs : List Value} (h : Row w bd A xs) (hb : Below bd w w') : Row w' bd A xs := by
  rcases h with h | ⟨a, rfl, hlt, hc⟩
  · exact .inl h
  · exact .inr ⟨a, rfl, hlt, fun j u hu => (hb.cell (p := a.add j) (by rw [add_block]; exact hlt)).trans (hc j u hu)⟩
theorem Row.more {w : World} {bd bd' : Nat} {A : Option Addr} {xs : List Value} (h : Row w bd A xs) (hb : bd ≤ bd') : Row w bd' A xs := by
  rcases h with h | ⟨a, rfl, hlt, hc⟩
  · exact .inl h
  · exact .inr ⟨a, rfl, by omega, hc⟩
theorem Row.grown {w w' : World} {bd : Nat} {row : Option Nat} {A : Option Addr} {xs : List Value} (h : Row w bd A xs) (hb : bd ≤ w.heap.size) (hg : w.grownBy w' row) (hr : ∀ k, row = some k → bd ≤ k) : Row w' bd A xs := by
  rcases h with h | ⟨a, rfl, hlt, hc⟩
  · exact .inl h
  · refine .inr ⟨a, rfl, hlt, fun j u hu => (World.cell?_of_block (hg.block _ ?_ ?_)).trans (hc j u hu)⟩
    · rw [add_block]; omega
    · rw [add_block]; intro e; have := hr _ e.symm; omega
theorem Row.at_ {w : World} {bd : Nat} {A : Option Addr} {xs : List Value} (h : Row w bd A xs) {k : Nat} (hk : k < xs.length) : ∃ a, A = some a ∧ a.block < bd ∧ w.cell? (a.add k) = some xs[k] := by
  rcases h with rfl | ⟨a, rfl, hlt, hc⟩
  · simp at hk
  · exact ⟨a, rfl, hlt, hc k _ (List.getElem?_eq_getElem hk)⟩
theorem Row.of_own {w : World} {base n c : Nat} {e : TypeId} {A : Option Addr} {xs : List Value} (h : w.ownsRow base e 1 (.slice A n c) n xs) : Row w w.heap.size A xs := by
  rcases h.2 with ⟨_, h0⟩ | ⟨g, cap, cur, hv, _, hh, _⟩
  · left
    have := h.1
    rw [h0] at this
    exact List.eq_nil_of_length_eq_zero (by simpa using this)
  · injection hv with hA _ _
    subst hA
    exact .inr ⟨_, rfl, (Array.getElem?_eq_some_iff.1 hh).1, h.cells (g := g) rfl⟩

def Ss (ss : List (List UInt8)) : List Value := ss.map fun s => Value.string (B s)
def Zs (zs : List Int) : List Value := zs.map (Value.int .i64)
theorem Ss_length (ss : List (List UInt8)) : (Ss ss).length = ss.length := by simp [Ss]
theorem Zs_length (zs : List Int) : (Zs zs).length = zs.length := by simp [Zs]
theorem Ss_get (ss : List (List UInt8)) (k : Nat) (h : k < (Ss ss).length) : (Ss ss)[k] = .string (B (ss[k]'(by simpa [Ss] using h))) := by simp [Ss]
theorem Zs_get (zs : List Int) (k : Nat) (h : k < (Zs zs).length) : (Zs zs)[k] = .int .i64 (zs[k]'(by simpa [Zs] using h)) := by simp [Zs]
theorem Row.str {w : World} {bd : Nat} {A : Option Addr} {ss : List (List UInt8)} (h : Row w bd A (Ss ss)) {k : Nat} (hk : k < ss.length) : ∃ a, A = some a ∧ a.block < bd ∧ w.cell? (a.add k) = some (.string (B ss[k])) := by
  obtain ⟨a, h1, h2, h3⟩ := h.at_ (k := k) (by rw [Ss_length]; exact hk)
  exact ⟨a, h1, h2, by rw [h3, Ss_get]⟩
theorem Row.num {w : World} {bd : Nat} {A : Option Addr} {zs : List Int} (h : Row w bd A (Zs zs)) {k : Nat} (hk : k < zs.length) : ∃ a, A = some a ∧ a.block < bd ∧ w.cell? (a.add k) = some (.int .i64 zs[k]) := by
  obtain ⟨a, h1, h2, h3⟩ := h.at_ (k := k) (by rw [Zs_length]; exact hk)
  exact ⟨a, h1, h2, by rw [h3, Zs_get]⟩

/-- 'string(b)' of a slice of the call's own. -/
theorem conv_own {w : World} {base : Nat} {v : Value} {l : List UInt8} (h : w.ownsRow base 5 1 v l.length (U l)) :
    (convert 48 9 v).run Tryd.prog w = .ok (.string (B l)) w := by
  rcases h.2 with ⟨rfl, h0⟩ | ⟨g, cap, cur, rfl, _⟩
  · obtain rfl : l = [] := List.eq_nil_of_length_eq_zero h0
    rw [run_convert_bytes_string w 48 9 5 none 0 0 Tryd.underlying48 Tryd.underlying5 Tryd.underlying9]
    rfl
  · exact run_convert_bytes_back w 48 9 5 ⟨g, 0, none⟩ cap l Tryd.underlying48 Tryd.underlying5 Tryd.underlying9 (fun j hj => h.cells (g := g) rfl j _ (by simp [U, hj]))
end Go.Proofs.YtcbhjagcfbinoaaDoor.S2
