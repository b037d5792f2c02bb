/-
  Layer 9 (disk) in plain Lean: eight files with durable prefixes, and what each operation makes of them. No program.
-/
import Derived.Below
namespace Go.Proofs.Ytihanhdepijijaa.S9
namespace Dk

abbrev Str := List UInt8
/-- One place of a function turned. -/
def upd {α : Type} (f : Nat → α) (i : Nat) (a : α) : Nat → α := fun j => if j = i then a else f j
theorem upd_same {α : Type} (f : Nat → α) (i : Nat) (a : α) : upd f i a i = a := by simp [upd]
theorem upd_other {α : Type} (f : Nat → α) {i j : Nat} (a : α) (h : j ≠ i) : upd f i a j = f j := by simp [upd, h]

/-- A machine with eight files: their bytes, how many of them are durable; whether it is down; the lost flushes to come; the calls to the planned crash (0: none), and what it keeps. -/
structure MD where
  text : Nat → Str
  dur : Nat → Nat
  down : Bool
  lost : Int
  calls : Int
  keep : Nat → Int
structure MD.Ok (D : MD) : Prop where
  dur : ∀ i, i < 8 → D.dur i ≤ (D.text i).length
  len : ∀ i, i < 8 → (D.text i).length ≤ 16777216
  lost : 0 ≤ D.lost ∧ D.lost ≤ 9223372036854775807
  calls : 0 ≤ D.calls ∧ D.calls ≤ 9223372036854775807
  keep : ∀ i, i < 8 → -9223372036854775808 ≤ D.keep i ∧ D.keep i ≤ 9223372036854775807
def MD.new : MD := ⟨fun _ => [], fun _ => 0, false, 0, 0, fun _ => 0⟩
theorem MD.new_ok : MD.new.Ok := ⟨by simp [MD.new], by simp [MD.new], by simp [MD.new], by simp [MD.new], by simp [MD.new]⟩

def isF (f : Int) : Bool := decide (0 ≤ f) && decide (f < 8)
def MD.chk1 (D : MD) (f : Int) : Int := if D.down then 8 else if isF f then 0 else 1
def MD.chk2 (D : MD) (f g : Int) : Int := if D.down then 8 else if isF f && isF g then 0 else 1
def MD.size (D : MD) (f : Int) : Nat := if isF f then (D.text f.toNat).length else 0
/-- The bytes of file i that survive. -/
def MD.cutAt (D : MD) (k : Nat → Int) (i : Nat) : Nat := D.dur i + min (k i).toNat ((D.text i).length - D.dur i)
def MD.crash (D : MD) (k : Nat → Int) : MD := { text := fun i => (D.text i).take (D.cutAt k i), dur := D.cutAt k, down := true, lost := D.lost, calls := 0, keep := fun _ => 0 }
/-- The call at which the planned crash happens. -/
def MD.hit (D : MD) : Bool := !D.down && decide (D.calls = 1)
def MD.tick (D : MD) : MD := if D.down = true ∨ D.calls = 0 then D else if D.calls = 1 then D.crash D.keep else { D with calls := D.calls - 1 }
def kof (l : List Int) : Nat → Int := fun i => l.getD i 0

def MD.appE (D : MD) (f : Int) (s : Str) : Int := if D.chk1 f ≠ 0 then D.chk1 f else if (16777216 : Int) - D.size f < s.length then 7 else 0
def MD.put (D : MD) (f : Nat) (s : Str) : MD := { D with text := upd D.text f (D.text f ++ s) }
def MD.app1 (D : MD) (f : Int) (s : Str) : MD := if D.appE f s = 0 then D.put f.toNat s else D
def MD.app (D : MD) (f : Int) (s : Str) : Int × MD := (if D.hit then 8 else D.appE f s, (D.app1 f s).tick)
def MD.settle (D : MD) (f : Nat) : MD := { D with dur := upd D.dur f (D.text f).length }
def MD.flush1 (D : MD) (f : Int) : Int × MD :=
  if D.chk1 f ≠ 0 then (D.chk1 f, D) else if 0 < D.lost then (18, { D with lost := D.lost - 1 }) else (0, D.settle f.toNat)
def MD.flush (D : MD) (f : Int) : Int × MD := if D.hit then (8, D.tick) else D.tick.flush1 f
def MD.trunc (D : MD) (f n : Nat) : MD := { D with text := upd D.text f ((D.text f).take n), dur := upd D.dur f (min (D.dur f) n) }
def MD.cut1 (D : MD) (f n : Int) : Int × MD :=
  if D.chk1 f ≠ 0 then (D.chk1 f, D) else if n < 0 ∨ (D.size f : Int) < n then (1, D) else (0, D.trunc f.toNat n.toNat)
def MD.cut (D : MD) (f n : Int) : Int × MD := if D.hit then (8, D.tick) else D.tick.cut1 f n
def MD.swap (D : MD) (f g : Nat) : MD := { D with text := upd (upd D.text f (D.text g)) g [], dur := upd (upd D.dur f (D.dur g)) g 0 }
def MD.turn1 (D : MD) (f g : Int) : Int × MD :=
  if D.chk2 f g ≠ 0 then (D.chk2 f g, D) else if f = g then (1, D) else if D.dur g.toNat < (D.text g.toNat).length then (9, D) else (0, D.swap f.toNat g.toNat)
def MD.turn (D : MD) (f g : Int) : Int × MD := if D.hit then (8, D.tick) else D.tick.turn1 f g
def MD.lose (D : MD) (n : Int) : MD := { D with lost := max n 0 }
def MD.arm (D : MD) (n : Int) (k : List Int) : MD := if 0 < n then { D with calls := n, keep := kof k } else { D with calls := 0, keep := fun _ => 0 }
def MD.Crash (D : MD) (k : List Int) : MD := if D.down then D else D.crash (kof k)
def MD.start (D : MD) : MD := { D with down := false }
def MD.read (D : MD) (f : Int) : Str × Int := if D.chk1 f ≠ 0 then ([], D.chk1 f) else (D.text f.toNat, 0)

/-! ### Each operation keeps the machine in order -/
def isI (x : Int) : Prop := -9223372036854775808 ≤ x ∧ x ≤ 9223372036854775807
theorem isF_iff {f : Int} : isF f = true ↔ 0 ≤ f ∧ f < 8 := by simp [isF]
theorem isF_nat {f : Int} (h : isF f = true) : f.toNat < 8 ∧ f = (f.toNat : Int) := by rw [isF_iff] at h; omega
theorem cutAt_le (D : MD) (h : D.Ok) (k : Nat → Int) {i : Nat} (hi : i < 8) : D.dur i ≤ D.cutAt k i ∧ D.cutAt k i ≤ (D.text i).length := by
  have := h.dur i hi
  unfold MD.cutAt
  omega
theorem crash_ok {D : MD} (h : D.Ok) (k : Nat → Int) : (D.crash k).Ok := by
  refine ⟨fun i hi => ?_, fun i hi => ?_, h.lost, by simp [MD.crash], by simp [MD.crash]⟩
  · have := cutAt_le D h k hi
    simp only [MD.crash, List.length_take]
    omega
  · have := h.len i hi
    simp only [MD.crash, List.length_take]
    omega
theorem tick_ok {D : MD} (h : D.Ok) : D.tick.Ok := by
  unfold MD.tick
  split
  · exact h
  · rename_i h0
    split
    · exact crash_ok h _
    · have := h.calls
      exact ⟨h.dur, h.len, h.lost, by simp only; omega, h.keep⟩
theorem put_ok {D : MD} (h : D.Ok) {f : Nat} {s : Str} (hl : (D.text f).length + s.length ≤ 16777216) : (D.put f s).Ok := by
  refine ⟨fun i hi => ?_, fun i hi => ?_, h.lost, h.calls, h.keep⟩
  · have := h.dur i hi
    simp only [MD.put, upd]
    split
    · rename_i e; subst e; simp; omega
    · exact this
  · have := h.len i hi
    simp only [MD.put, upd]
    split
    · rename_i e; subst e; simp; omega
    · exact this
theorem settle_ok {D : MD} (h : D.Ok) (f : Nat) : (D.settle f).Ok := by
  refine ⟨fun i hi => ?_, h.len, h.lost, h.calls, h.keep⟩
  simp only [MD.settle, upd]
  split
  · rename_i e; subst e; simp
  · exact h.dur i hi
theorem trunc_ok {D : MD} (h : D.Ok) (f n : Nat) : (D.trunc f n).Ok := by
  refine ⟨fun i hi => ?_, fun i hi => ?_, h.lost, h.calls, h.keep⟩
  · have := h.dur i hi
    simp only [MD.trunc, upd]
    split
    · rename_i e; subst e; simp only [List.length_take]; omega
    · exact this
  · have := h.len i hi
    simp only [MD.trunc, upd]
    split
    · rename_i e; subst e; simp only [List.length_take]; omega
    · exact this
theorem swap_ok {D : MD} (h : D.Ok) {f g : Nat} (hg : g < 8) : (D.swap f g).Ok := by
  refine ⟨fun i hi => ?_, fun i hi => ?_, h.lost, h.calls, h.keep⟩
  · have := h.dur i hi
    have := h.dur g hg
    simp only [MD.swap, upd]
    split
    · simp
    · split
      · assumption
      · assumption
  · have := h.len i hi
    have := h.len g hg
    simp only [MD.swap, upd]
    split
    · simp
    · split
      · assumption
      · assumption
theorem kof_in {l : List Int} (h : ∀ x ∈ l, isI x) (i : Nat) : isI (kof l i) := by
  unfold kof
  rw [List.getD_eq_getElem?_getD]
  rcases hi : l[i]? with _ | x
  · simp [isI]
  · exact h x (List.mem_of_getElem? hi)
theorem lose_ok {D : MD} (h : D.Ok) {n : Int} (hn : isI n) : (D.lose n).Ok := by
  unfold isI at hn
  exact ⟨h.dur, h.len, by simp only [MD.lose]; omega, h.calls, h.keep⟩
theorem arm_ok {D : MD} (h : D.Ok) {n : Int} (hn : isI n) {k : List Int} (hk : ∀ x ∈ k, isI x) : (D.arm n k).Ok := by
  unfold isI at hn
  unfold MD.arm
  split
  · exact ⟨h.dur, h.len, h.lost, by simp only; omega, fun i _ => kof_in hk i⟩
  · exact ⟨h.dur, h.len, h.lost, by simp, by simp⟩
theorem start_ok {D : MD} (h : D.Ok) : D.start.Ok := ⟨h.dur, h.len, h.lost, h.calls, h.keep⟩
theorem Crash_ok {D : MD} (h : D.Ok) (k : List Int) : (D.Crash k).Ok := by
  unfold MD.Crash
  split
  · exact h
  · exact crash_ok h _
end Dk
end Go.Proofs.Ytihanhdepijijaa.S9
