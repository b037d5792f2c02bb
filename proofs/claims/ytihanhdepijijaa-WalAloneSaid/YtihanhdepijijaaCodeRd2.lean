/-
  Layer 2 (code): the reader: Int, Text, List, Nums, Open.
-/
import Derived.Test.YtihanhdepijijaaCodeRd
namespace Go.Proofs.Ytihanhdepijijaa.S2
open Go.RowKit
open Cd
attribute [local go_sem] B_size B_drop' B_take B_list B_app

theorem lft_rest {α : Type} {enc : α → List UInt8} {dec : List UInt8 → Option (α × List UInt8)} {ok : α → Prop} (h : Codec enc dec ok) (s : St) : (lft (rest (s.bind dec))).length ≤ (lft s).length := by
  rcases s with _ | l
  · exact Nat.le_refl _
  · rcases hd : dec l with _ | ⟨a, r⟩
    · rw [Option.bind_some, hd]
      exact Nat.zero_le _
    · have e := (h.again _ _ _ hd).1
      rw [Option.bind_some, hd]
      show r.length ≤ l.length
      rw [e, List.length_append]
      omega
theorem val_lt (s : St) : val 0 (s.bind decN) < 9223372036854775808 := by
  rcases s with _ | l
  · simp [val]
  · rcases hd : decN l with _ | ⟨a, r⟩
    · simp [val, hd]
    · have := (codecN.again _ _ _ hd).2
      simpa [val, hd, okN] using this
/-- Int of what Num has left. -/
theorem int_comb (s : St) : s.bind decI = ((s.bind decN).bind fun p => if okI (uz p.1) then some (uz p.1, p.2) else none) := by
  rcases s with _ | l <;> rfl
theorem int_yes {s : St} (h : okI (uz (val 0 (s.bind decN)))) : val 0 (s.bind decI) = uz (val 0 (s.bind decN)) ∧ rest (s.bind decI) = rest (s.bind decN) := by
  rw [int_comb]
  rcases hd : s.bind decN with _ | ⟨z, r⟩
  · exact ⟨rfl, rfl⟩
  · rw [hd] at h
    have h' : okI (uz z) := h
    simp only [Option.bind_some, if_pos h']
    exact ⟨rfl, rfl⟩
theorem int_no {s : St} (h : ¬ okI (uz (val 0 (s.bind decN)))) : val 0 (s.bind decI) = 0 ∧ rest (s.bind decI) = none := by
  rw [int_comb]
  rcases hd : s.bind decN with _ | ⟨z, r⟩
  · exact ⟨rfl, rfl⟩
  · rw [hd] at h
    have h' : ¬ okI (uz z) := h
    simp only [Option.bind_some, if_neg h']
    exact ⟨rfl, rfl⟩

theorem text_comb (s : St) : (rest (s.bind decN)).bind (takeI (val 0 (s.bind decN) : Nat)) = s.bind decT := by
  rcases s with _ | l
  · rfl
  · simp only [Option.bind_some, decT]
    rcases hd : decN l with _ | ⟨z, r⟩
    · rfl
    · simp [rest, val, takeI]

set_option maxHeartbeats 400000 in
theorem open_any (l : List UInt8) (w : World) :
    Calls Try.prog 46 #[.string (B l)] w fun e w' => e = .returned (.pointer (some ⟨w.heap.size, 0, none⟩)) ∧ w' = w.alloc (.cells (rc (some l)) 103) := by
  go_enter Try.func46, Try.ntmps46
  go_wp2
  go_ret
  exact ⟨rfl, rfl⟩

/-! ### Lists -/
/-- A call on the reader hands back a slice of its own that holds these cells, and leaves it in state s. -/
def LRes (T E : TypeId) (g : Nat) (W : World) (xs : List Value) (s : St) (e : Ending) (w' : World) : Prop :=
  ∃ A c, e = .returned (.slice A xs.length c) ∧ w'.ownsRow W.heap.size E 1 (.slice A xs.length c) xs.length xs ∧ Rd T w' g s ∧ W.grownBy w' (some g)

/-- What the loop of 'takeList' keeps: dl done so far, st the reader's state; 'tgt': what the list will be. -/
def TLat {α : Type} (T E : TypeId) (dec : List UInt8 → Option (α × List UInt8)) (c : α → Value) (g n : Nat) (tgt : Option (List α × List UInt8)) (w : World) (o : Value) (wr : World) (A : Option Addr) (cap : Nat) (dl : List α) (st : St) : Prop :=
  o = .slice A dl.length cap ∧ dl.length ≤ n ∧ wr.ownsRow w.heap.size E 1 o dl.length (dl.map c) ∧ Rd T wr g st ∧ w.grownBy wr (some g) ∧ (lft st).length ≤ 1099511627776 ∧
    (st = none → tgt = none) ∧ (∀ r, st = some r → tgt = (decM dec (n - dl.length) r).map fun q => (dl ++ q.1, q.2))
def TL {α : Type} (T E : TypeId) (dec : List UInt8 → Option (α × List UInt8)) (c : α → Value) (g n : Nat) (tgt : Option (List α × List UInt8)) (w : World) (o : Value) (wr : World) : Prop :=
  ∃ (A : Option Addr) (cap : Nat) (dl : List α) (st : St), TLat T E dec c g n tgt w o wr A cap dl st
theorem tl_tgt {α : Type} {dec : List UInt8 → Option (α × List UInt8)} {z : α} {n : Nat} {tgt : Option (List α × List UInt8)} {dl : List α} {r : List UInt8} (hn : dl.length < n)
    (h : tgt = (decM dec (n - dl.length) r).map fun q => (dl ++ q.1, q.2)) :
    (rest (dec r) = none → tgt = none) ∧ (∀ r', rest (dec r) = some r' → tgt = (decM dec (n - (dl ++ [val z (dec r)]).length) r').map fun q => (dl ++ [val z (dec r)] ++ q.1, q.2)) := by
  have e : n - dl.length = (n - (dl.length + 1)) + 1 := by omega
  rw [e, decM] at h
  rcases hd : dec r with _ | ⟨a, r1⟩
  · rw [hd] at h
    exact ⟨fun _ => h, (fun r' hr => by cases hr)⟩
  · rw [hd] at h
    refine ⟨(fun hr => by cases hr), fun r' hr => ?_⟩
    have hr' : r1 = r' := by injection hr
    subst hr'
    rw [h, List.length_append, List.length_singleton]
    simp only [Option.bind_some]
    rcases decM dec (n - (dl.length + 1)) r1 with _ | ⟨q1, q2⟩
    · rfl
    · simp [val]
theorem tl_stop {α : Type} {dec : List UInt8 → Option (α × List UInt8)} {n : Nat} {tgt : Option (List α × List UInt8)} {dl : List α} {r : List UInt8} (hn : dl.length = n)
    (h : tgt = (decM dec (n - dl.length) r).map fun q => (dl ++ q.1, q.2)) : tgt = some (dl, r) := by
  rw [h, hn, Nat.sub_self, decM]
  simp
theorem list_comb {α : Type} (dec : List UInt8 → Option (α × List UInt8)) (s : St) :
    (rest (s.bind decN) = none → s.bind (decL dec) = none ∧ val 0 (s.bind decN) = 0) ∧
    (∀ r, rest (s.bind decN) = some r → s.bind (decL dec) = if val 0 (s.bind decN) ≤ r.length then decM dec (val 0 (s.bind decN)) r else none) := by
  rcases s with _ | l
  · exact ⟨fun _ => ⟨rfl, rfl⟩, (fun r h => by cases h)⟩
  · simp only [Option.bind_some, decL]
    rcases hd : decN l with _ | ⟨z, r1⟩
    · exact ⟨fun _ => ⟨rfl, rfl⟩, (fun r h => by cases h)⟩
    · refine ⟨(fun h => by cases h), fun r h => ?_⟩
      have hr' : r1 = r := by injection h
      subst hr'
      rfl
theorem infoString : (Try.prog.info? 9).map (fun i => (i.zero, i.size, i.bytes)) = some (some (.string ByteArray.empty), 1, 16) := by kernel_rfl
theorem infoInt : (Try.prog.info? 3).map (fun i => (i.zero, i.size, i.bytes)) = some (some (.int .i64 0), 1, 8) := by kernel_rfl

theorem tl_push {α : Type} {T E : TypeId} {enc : α → List UInt8} {dec : List UInt8 → Option (α × List UInt8)} {ok : α → Prop} (C : Codec enc dec ok) {c : α → Value} {z : α} {g n : Nat} {tgt : Option (List α × List UInt8)} {w wr w2 w3 : World} {A : Option Addr} {cap : Nat} {dl : List α} {r : List UInt8} {v' u : Value} {t : TypeId}
    (hn : dl.length < n) (hg : g < w.heap.size) (hown2 : w2.ownsRow w.heap.size E 1 (.slice A dl.length cap) dl.length (dl.map c))
    (hgrw : w.grownBy wr (some g)) (hl : r.length ≤ 1099511627776) (ht : tgt = (decM dec (n - dl.length) r).map fun q => (dl ++ q.1, q.2))
    (h2 : Rd T w2 g (rest (dec r))) (h3 : wr.grownBy w2 (some g))
    (hown' : w3.ownsRow w.heap.size E 1 v' (dl.length + 1) (dl.map c ++ [c (val z (dec r))])) (hgrow : (w2.alloc (.cells #[u] t)).grownBy w3 (Value.ownBlock (.slice A dl.length cap))) :
    ∃ A' cap', v' = .slice A' (dl.length + 1) cap' ∧ TLat T E dec c g n tgt w v' w3 A' cap' (dl ++ [val z (dec r)]) (rest (dec r)) := by
  have hshape : ∃ A' cap', v' = .slice A' (dl.length + 1) cap' := by
    rcases hown'.2 with ⟨_, h0⟩ | ⟨g', cap', cur, rfl, _⟩
    · omega
    · exact ⟨_, _, rfl⟩
  obtain ⟨A', cap', rfl⟩ := hshape
  refine ⟨A', cap', rfl, ?_⟩
  have hT := tl_tgt (z := z) hn ht
  have hne : ∀ k, Value.ownBlock (.slice A dl.length cap) = some k → w.heap.size ≤ k := fun k hk => (hown2.lt k hk).1
  have hglt : g < w2.heap.size := blk_lt h2
  have h4 := grown_trans hgrw h3
  have h5 := hgrow.size
  have h6 := h4.size
  simp only [World.size_alloc] at h5
  refine ⟨by simp, by simp; omega, ?_, ?_, ?_, ?_, hT.1, hT.2⟩
  · exact own_cong hown' (by simp) (by simp)
  · unfold Rd at h2 ⊢
    rw [hgrow.block g (by simp; omega) (fun e => by have := hne g e.symm; omega), ← h2]
    exact Below.heap_alloc w2 _ g hglt
  · refine ⟨hgrow.os.trans h4.os, hgrow.tape.trans h4.tape, hgrow.output.trans h4.output, by omega, ?_⟩
    intro k hk hkg
    rw [hgrow.block k (by simp; omega) (fun e => by have := hne k e.symm; omega), Below.heap_alloc w2 _ k (by omega)]
    exact h4.block k hk hkg
  · exact Nat.le_trans (lft_rest C (some r)) hl
theorem tl_none {α : Type} {T E : TypeId} {c : α → Value} {g : Nat} {tgt : Option (List α × List UInt8)} {w wr : World} (h : tgt = none) (h2 : Rd T wr g none) (h3 : w.grownBy wr (some g)) :
    LRes T E g w ((val [] tgt).map c) (rest tgt) (.returned (.slice none 0 0)) wr := by
  subst h
  exact ⟨none, 0, rfl, World.ownsRow_nil _ _ _ _, h2, h3⟩
theorem tl_some {α : Type} {T E : TypeId} {c : α → Value} {g : Nat} {tgt : Option (List α × List UInt8)} {w wr : World} {A : Option Addr} {cap : Nat} {dl : List α} {r : List UInt8} (h : tgt = some (dl, r))
    (hown : wr.ownsRow w.heap.size E 1 (.slice A dl.length cap) dl.length (dl.map c)) (h2 : Rd T wr g (some r)) (h3 : w.grownBy wr (some g)) :
    LRes T E g w ((val [] tgt).map c) (rest tgt) (.returned (.slice A dl.length cap)) wr := by
  subst h
  have e : ((val [] (some (dl, r))).map c).length = dl.length := by simp [val]
  refine ⟨A, cap, ?_, ?_, h2, h3⟩
  · rw [e]
  · rw [e]; exact hown
theorem own_far {w w' : World} {base g n : Nat} {E : TypeId} {v : Value} {xs : List Value} (h : w.ownsRow base E 1 v n xs) (hg : g < base) (hgr : w.grownBy w' (some g)) : w'.ownsRow base E 1 v n xs :=
  h.kept hgr (by
    rcases ho : v.ownBlock with _ | k
    · exact .inl rfl
    · right
      intro e
      have e2 : k = g := by injection e
      have := (h.lt k ho).1
      omega)
theorem tl_start {α : Type} {T E : TypeId} {dec : List UInt8 → Option (α × List UInt8)} {c : α → Value} {g n : Nat} {tgt : Option (List α × List UInt8)} {w wr : World} {r : List UInt8} (h : tgt = decM dec n r) (hl : r.length ≤ 1099511627776) (h2 : Rd T wr g (some r)) (h3 : w.grownBy wr (some g)) :
    TL T E dec c g n tgt w (.slice none 0 0) wr := by
  refine ⟨none, 0, [], some r, rfl, by simp, World.ownsRow_nil _ _ _ _, h2, h3, hl, (fun h => by cases h), fun r' hr => ?_⟩
  obtain rfl : r = r' := by injection hr
  rw [h, List.length_nil, Nat.sub_zero]
  rcases decM dec n r with _ | ⟨q1, q2⟩ <;> rfl
def lenOf : Value → Nat
  | .slice _ k _ => k
  | _ => 0
def sv (s : List UInt8) : Value := .string (B s)

end Go.Proofs.Ytihanhdepijijaa.S2
