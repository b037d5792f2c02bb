/-
  SumMath, SumCrc, SumBase, SumMem: joined.
-/
import GoSem.Core.Next
import Derived.Test.YtojbicpchjiplaaGreatDoorRows
import Derived.WalkKit
import Derived.WalkSpells
import Derived.WalkLawsBesides
import Derived.Lib.Hide
import Derived.PlainAid
import Derived.Handy
import Derived.Deep.QuietTactic
import Derived.BigQuiet
import Derived.OwnWalk
import Derived.Laws.IdiomStrings
import Derived.Lib.AppendStr
import Derived.LoopTactic
import Derived.Outline
import Derived.IntWalk
import Derived.Laws.BitsAllLaws
import Derived.Deep.RegionHeld3
import Derived.ArgAppend
/-
  The algebra of the checksum, over bit vectors: the register's step is linear and injective; a window of 32 bits is told; the residue.
  It speaks of no program.
-/
namespace Go.Proofs.YtojbicpchjiplaaGreatDoor.S3.Crc

/-- One bit's step of the register. -/
def cs1 (c : BitVec 32) : BitVec 32 := if c.getLsbD 0 then (c >>> 1) ^^^ 0x82f63b78#32 else c >>> 1

/-- A bit as a word. -/
def one (b : Bool) : BitVec 32 := if b then 1#32 else 0#32
/-- The register after a list of bits. -/
def run (c : BitVec 32) : List Bool → BitVec 32
  | [] => c
  | b :: l => run (cs1 (c ^^^ one b)) l
/-- The word whose bits these are, the least significant one first. -/
def val : List Bool → BitVec 32
  | [] => 0#32
  | b :: l => one b ^^^ (val l <<< 1)
end Go.Proofs.YtojbicpchjiplaaGreatDoor.S3.Crc

/-
  The checksum of a list of bytes: what the statements about it say, in terms of lists. It speaks of no program.
-/
namespace Go.Proofs.YtojbicpchjiplaaGreatDoor.S3.Crc

/-- The four bytes of a word, the least significant one first. -/
def le (c : BitVec 32) : List UInt8 := [⟨c.setWidth 8⟩, ⟨(c >>> 8).setWidth 8⟩, ⟨(c >>> 16).setWidth 8⟩, ⟨(c >>> 24).setWidth 8⟩]
end Go.Proofs.YtojbicpchjiplaaGreatDoor.S3.Crc

/-
  Layer 3 (sum): words for memory, and numbers as words.
-/
namespace Go.Proofs.YtojbicpchjiplaaGreatDoor.S3
open Go.RowKit

/-- The bytes as cells. -/
def U (l : List UInt8) : List Value := l.map fun b => Value.int .u8 b.toNat
/-- The string of these bytes. -/
def B (l : List UInt8) : ByteArray := ⟨l.toArray⟩
theorem U_length (l : List UInt8) : (U l).length = l.length := by simp [U]
theorem U_append (l r : List UInt8) : U (l ++ r) = U l ++ U r := by simp [U]
theorem B_size (l : List UInt8) : (B l).size = l.length := by simp [B, ByteArray.size]
theorem B_eq {a : ByteArray} {l : List UInt8} (h : a.data.toList = l) : a = B l := by
  subst h; rfl
theorem B_drop (l : List UInt8) (k : Nat) : (B l).extract k (B l).size = B (l.drop k) := by
  apply B_eq
  rw [ByteArray.data_extract, Array.toList_extract, B_size]
  simp only [List.extract, B]
  exact List.take_of_length_le (by simp)
theorem B_take (l : List UInt8) (k : Nat) : (B l).extract 0 k = B (l.take k) := by
  apply B_eq
  rw [ByteArray.data_extract, Array.toList_extract]
  simp [List.extract, B]
theorem B_drop' (l : List UInt8) (k : Nat) : (B l).extract k l.length = B (l.drop k) := by rw [← B_drop, B_size]
theorem B_list (l : List UInt8) : (B l).toList = l := by rw [ByteArray.toList_eq]; rfl
theorem B_app (a b : List UInt8) : B a ++ B b = B (a ++ b) := by
  apply B_eq
  rw [ByteArray.data_append, Array.toList_append]
  rfl

/-! ### Words -/
end Go.Proofs.YtojbicpchjiplaaGreatDoor.S3

/-
  Layer 3 (sum): slices of bytes that a call makes.
-/
namespace Go.Proofs.YtojbicpchjiplaaGreatDoor.S3
open Go.RowKit

theorem infoByte : (Tryz.prog.info? 5).map (fun i => (i.zero, i.size, i.bytes)) = some (some (.int .u8 0), 1, 1) := by kernel_rfl
theorem one_cell {w : World} {v : Value} {t : TypeId} : ∀ (j : Nat) (u : Value), [v][j]? = some u → (w.alloc (.cells #[v] t)).cell? ((⟨w.heap.size, 0, none⟩ : Addr).add j) = some u := by
  intro j u hj
  match j, hj with
  | 0, hj => simp at hj; subst hj; simp [Addr.add]
theorem own_cong {w : World} {base : Nat} {e : TypeId} {v : Value} {n m : Nat} {xs ys : List Value} (h : w.ownsRow base e 1 v n xs) (hn : n = m) (hx : xs = ys) : w.ownsRow base e 1 v m ys := by
  subst hn; subst hx; exact h
/-- What an append of bytes leaves. -/
theorem own_more {base : Nat} {w wr w1 : World} {o v' : Value} {q r : List UInt8} {n : Nat} {ys : List Value} {c : Array Value} {t : TypeId} (hn : n = q.length + r.length) (hy : ys = U q ++ U r) (hbase : base ≤ wr.heap.size)
    (hown : wr.ownsRow base 5 1 o q.length (U q)) (hb : Below base w wr) (hown' : w1.ownsRow base 5 1 v' n ys) (hg : (wr.alloc (.cells c t)).grownBy w1 o.ownBlock) :
    w1.ownsRow base 5 1 v' (q ++ r).length (U (q ++ r)) ∧ Below base w w1 := by
  subst hn; subst hy
  exact ⟨own_cong hown' (by simp) (U_append _ _).symm, (hb.alloc hbase _).grown hg (by simp; omega) (fun k hk => ((hown.alloc (.cells c t)).lt k hk).1)⟩
/-- 'string(b)' of a slice of the call's own. -/
theorem conv_own {w : World} {base : Nat} {v : Value} {l : List UInt8} (h : w.ownsRow base 5 1 v l.length (U l)) :
    (convert 100 9 v).run Tryz.prog w = .ok (.string (B l)) w := by
  rcases h.2 with ⟨rfl, h0⟩ | ⟨g, cap, cur, rfl, _⟩
  · obtain rfl : l = [] := List.eq_nil_of_length_eq_zero h0
    rw [run_convert_bytes_string w 100 9 5 none 0 0 Tryz.underlying100 Tryz.underlying5 Tryz.underlying9]
    rfl
  · exact run_convert_bytes_back w 100 9 5 ⟨g, 0, none⟩ cap l Tryz.underlying100 Tryz.underlying5 Tryz.underlying9 (fun j hj => h.cells (g := g) rfl j _ (by simp [U, hj]))
end Go.Proofs.YtojbicpchjiplaaGreatDoor.S3
