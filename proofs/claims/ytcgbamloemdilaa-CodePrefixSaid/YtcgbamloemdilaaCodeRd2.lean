/-
  Layer 2 (code): the reader: Int, Text, List, Nums, Open.
-/
import Derived.Test.YtcgbamloemdilaaCodeRd
namespace Go.Proofs.Ytcgbamloemdilaa
open Go.RowKit
open Cd
attribute [local go_sem] B_size B_drop' B_take B_list B_app

theorem lft_rest {α : Type} {enc : α → List UInt8} {dec : List UInt8 → Option (α × List UInt8)} {ok : α → Prop} (h : Codec enc dec ok) (s : St) : (lft (rest (s.bind dec))).length ≤ (lft s).length := by
  rcases s with _ | l
  · exact Nat.le_refl _
  · rcases hd : dec l with _ | ⟨a, r⟩
    · rw [Option.bind_some, hd]
      exact Nat.zero_le _
    · have e := (h.again _ _ _ hd).1
      rw [Option.bind_some, hd]
      show r.length ≤ l.length
      rw [e, List.length_append]
      omega
theorem val_lt (s : St) : val 0 (s.bind decN) < 9223372036854775808 := by
  rcases s with _ | l
  · simp [val]
  · rcases hd : decN l with _ | ⟨a, r⟩
    · simp [val, hd]
    · have := (codecN.again _ _ _ hd).2
      simpa [val, hd, okN] using this
/-- Int of what Num has left. -/
theorem int_comb (s : St) : s.bind decI = ((s.bind decN).bind fun p => if okI (uz p.1) then some (uz p.1, p.2) else none) := by
  rcases s with _ | l <;> rfl
theorem int_yes {s : St} (h : okI (uz (val 0 (s.bind decN)))) : val 0 (s.bind decI) = uz (val 0 (s.bind decN)) ∧ rest (s.bind decI) = rest (s.bind decN) := by
  rw [int_comb]
  rcases hd : s.bind decN with _ | ⟨z, r⟩
  · exact ⟨rfl, rfl⟩
  · rw [hd] at h
    have h' : okI (uz z) := h
    simp only [Option.bind_some, if_pos h']
    exact ⟨rfl, rfl⟩
theorem int_no {s : St} (h : ¬ okI (uz (val 0 (s.bind decN)))) : val 0 (s.bind decI) = 0 ∧ rest (s.bind decI) = none := by
  rw [int_comb]
  rcases hd : s.bind decN with _ | ⟨z, r⟩
  · exact ⟨rfl, rfl⟩
  · rw [hd] at h
    have h' : ¬ okI (uz z) := h
    simp only [Option.bind_some, if_neg h']
    exact ⟨rfl, rfl⟩

set_option maxHeartbeats 1000000 in
theorem int_any (g : Nat) (s : St) (w : World) (h : Rd 59 w g s) (hl : (lft s).length ≤ 1099511627776) :
    Calls Try.prog 28 #[.pointer (some ⟨g, 0, none⟩)] w (RRes 59 g w (.int .i64 (val 0 (s.bind decI))) (rest (s.bind decI))) := by
  have HN := Lib.hid (num_any g s w h hl)
  have hz := val_lt s
  obtain ⟨z, hze⟩ : ∃ z, z = val 0 (s.bind decN) := ⟨_, rfl⟩
  have hyes := @int_yes s
  have hno := @int_no s
  rw [← hze] at hz hyes hno HN
  have h0 : (0 : Int) ≤ z := by omega
  have h1 : (z : Int) ≤ 9223372036854775807 := by omega
  clear h hl hze
  by_cases hodd : z % 2 = 1
  · have hu : uz z = -((z : Int) / 2) - 1 := by unfold uz; rw [if_pos hodd]; omega
    have ho2 : (z : Int) % 2 = 1 := by omega
    rw [hu] at hyes hno
    by_cases hk : okI (-((z : Int) / 2) - 1)
    · have hk2 : -2305843009213693952 ≤ -((z : Int) / 2) - 1 ∧ -((z : Int) / 2) - 1 ≤ 2305843009213693952 := hk
      obtain ⟨k0, k1⟩ := hk2
      have R := hyes hk
      rw [R.1, R.2]
      clear R hyes hno hu hodd hk
      go_enter Try.func28, Try.ntmps28
      go_wp2_with fail
      refine HN.out.mono ?_
      rintro e w1 ⟨rfl, h2, h3⟩
      go_wp2
      go_ret
      exact ⟨rfl, h2, h3⟩
    · have hk2 : ¬ (-2305843009213693952 ≤ -((z : Int) / 2) - 1 ∧ -((z : Int) / 2) - 1 ≤ 2305843009213693952) := hk
      have k0 : -((z : Int) / 2) - 1 < -2305843009213693952 := by omega
      have R := hno hk
      rw [R.1, R.2]
      clear R hyes hno hu hodd hk hk2
      go_enter Try.func28, Try.ntmps28
      go_wp2_with fail
      refine HN.out.mono ?_
      rintro e w1 ⟨rfl, h2, h3⟩
      have HF := Lib.hid (fail_any g _ w1 h2)
      have HG := Lib.hid h3
      clear h2 h3
      go_wp2_with fail
      refine HF.out.mono ?_
      rintro e w2 ⟨rfl, h4, h5⟩
      go_wp2
      go_ret
      exact ⟨rfl, h4, grown_trans HG.out h5⟩
  · have hu : uz z = (z : Int) / 2 := by unfold uz; rw [if_neg hodd]; omega
    have ho2 : (z : Int) % 2 = 0 := by omega
    rw [hu] at hyes hno
    have k00 : -2305843009213693952 ≤ (z : Int) / 2 := by omega
    by_cases hk : okI ((z : Int) / 2)
    · have hk2 : -2305843009213693952 ≤ (z : Int) / 2 ∧ (z : Int) / 2 ≤ 2305843009213693952 := hk
      have k1 := hk2.2
      have R := hyes hk
      rw [R.1, R.2]
      clear R hyes hno hu hodd hk hk2
      go_enter Try.func28, Try.ntmps28
      go_wp2_with fail
      refine HN.out.mono ?_
      rintro e w1 ⟨rfl, h2, h3⟩
      go_wp2
      go_ret
      exact ⟨rfl, h2, h3⟩
    · have hk2 : ¬ (-2305843009213693952 ≤ (z : Int) / 2 ∧ (z : Int) / 2 ≤ 2305843009213693952) := hk
      have k1 : 2305843009213693952 < (z : Int) / 2 := by omega
      have R := hno hk
      rw [R.1, R.2]
      clear R hyes hno hu hodd hk hk2
      go_enter Try.func28, Try.ntmps28
      go_wp2_with fail
      refine HN.out.mono ?_
      rintro e w1 ⟨rfl, h2, h3⟩
      have HF := Lib.hid (fail_any g _ w1 h2)
      have HG := Lib.hid h3
      clear h2 h3
      go_wp2_with fail
      refine HF.out.mono ?_
      rintro e w2 ⟨rfl, h4, h5⟩
      go_wp2
      go_ret
      exact ⟨rfl, h4, grown_trans HG.out h5⟩

theorem text_comb (s : St) : (rest (s.bind decN)).bind (takeI (val 0 (s.bind decN) : Nat)) = s.bind decT := by
  rcases s with _ | l
  · rfl
  · simp only [Option.bind_some, decT]
    rcases hd : decN l with _ | ⟨z, r⟩
    · rfl
    · simp [rest, val, takeI]

set_option maxHeartbeats 1000000 in
theorem text_any (g : Nat) (s : St) (w : World) (h : Rd 59 w g s) (hl : (lft s).length ≤ 1099511627776) :
    Calls Try.prog 30 #[.pointer (some ⟨g, 0, none⟩)] w (RRes 59 g w (.string (B (val [] (s.bind decT)))) (rest (s.bind decT))) := by
  have HN := Lib.hid (num_any g s w h hl)
  have hc := text_comb s
  have hl2 : (lft (rest (s.bind decN))).length ≤ 1099511627776 := Nat.le_trans (lft_rest codecN s) hl
  rw [← hc]
  obtain ⟨n, hn⟩ : ∃ n, n = val 0 (s.bind decN) := ⟨_, rfl⟩
  obtain ⟨s1, hs1⟩ : ∃ s1, s1 = rest (s.bind decN) := ⟨_, rfl⟩
  rw [← hn, ← hs1] at HN ⊢
  rw [← hs1] at hl2
  clear hn hs1 hc h hl
  go_enter Try.func30, Try.ntmps30
  go_wp2_with fail
  refine HN.out.mono ?_
  rintro e w1 ⟨rfl, h2, h3⟩
  have HT := Lib.hid (take_any g s1 n w1 h2 hl2)
  have HG := Lib.hid h3
  clear h2 h3
  go_wp2_with fail
  refine HT.out.mono ?_
  rintro e w2 ⟨rfl, h4, h5⟩
  go_wp2
  go_ret
  exact ⟨rfl, h4, grown_trans HG.out h5⟩

set_option maxHeartbeats 400000 in
theorem open_any (l : List UInt8) (w : World) :
    Calls Try.prog 22 #[.string (B l)] w fun e w' => e = .returned (.pointer (some ⟨w.heap.size, 0, none⟩)) ∧ w' = w.alloc (.cells (rc (some l)) 59) := by
  go_enter Try.func22, Try.ntmps22
  go_wp2
  go_ret
  exact ⟨rfl, rfl⟩

/-! ### Lists -/
/-- A call on the reader hands back a slice of its own that holds these cells, and leaves it in state s. -/
def LRes (T E : TypeId) (g : Nat) (W : World) (xs : List Value) (s : St) (e : Ending) (w' : World) : Prop :=
  ∃ A c, e = .returned (.slice A xs.length c) ∧ w'.ownsRow W.heap.size E 1 (.slice A xs.length c) xs.length xs ∧ Rd T w' g s ∧ W.grownBy w' (some g)

/-- What the loop of 'takeList' keeps: dl done so far, st the reader's state; 'tgt': what the list will be. -/
def TLat {α : Type} (T E : TypeId) (dec : List UInt8 → Option (α × List UInt8)) (c : α → Value) (g n : Nat) (tgt : Option (List α × List UInt8)) (w : World) (o : Value) (wr : World) (A : Option Addr) (cap : Nat) (dl : List α) (st : St) : Prop :=
  o = .slice A dl.length cap ∧ dl.length ≤ n ∧ wr.ownsRow w.heap.size E 1 o dl.length (dl.map c) ∧ Rd T wr g st ∧ w.grownBy wr (some g) ∧ (lft st).length ≤ 1099511627776 ∧
    (st = none → tgt = none) ∧ (∀ r, st = some r → tgt = (decM dec (n - dl.length) r).map fun q => (dl ++ q.1, q.2))
def TL {α : Type} (T E : TypeId) (dec : List UInt8 → Option (α × List UInt8)) (c : α → Value) (g n : Nat) (tgt : Option (List α × List UInt8)) (w : World) (o : Value) (wr : World) : Prop :=
  ∃ (A : Option Addr) (cap : Nat) (dl : List α) (st : St), TLat T E dec c g n tgt w o wr A cap dl st
theorem tl_tgt {α : Type} {dec : List UInt8 → Option (α × List UInt8)} {z : α} {n : Nat} {tgt : Option (List α × List UInt8)} {dl : List α} {r : List UInt8} (hn : dl.length < n)
    (h : tgt = (decM dec (n - dl.length) r).map fun q => (dl ++ q.1, q.2)) :
    (rest (dec r) = none → tgt = none) ∧ (∀ r', rest (dec r) = some r' → tgt = (decM dec (n - (dl ++ [val z (dec r)]).length) r').map fun q => (dl ++ [val z (dec r)] ++ q.1, q.2)) := by
  have e : n - dl.length = (n - (dl.length + 1)) + 1 := by omega
  rw [e, decM] at h
  rcases hd : dec r with _ | ⟨a, r1⟩
  · rw [hd] at h
    exact ⟨fun _ => h, (fun r' hr => by cases hr)⟩
  · rw [hd] at h
    refine ⟨(fun hr => by cases hr), fun r' hr => ?_⟩
    have hr' : r1 = r' := by injection hr
    subst hr'
    rw [h, List.length_append, List.length_singleton]
    simp only [Option.bind_some]
    rcases decM dec (n - (dl.length + 1)) r1 with _ | ⟨q1, q2⟩
    · rfl
    · simp [val]
theorem tl_stop {α : Type} {dec : List UInt8 → Option (α × List UInt8)} {n : Nat} {tgt : Option (List α × List UInt8)} {dl : List α} {r : List UInt8} (hn : dl.length = n)
    (h : tgt = (decM dec (n - dl.length) r).map fun q => (dl ++ q.1, q.2)) : tgt = some (dl, r) := by
  rw [h, hn, Nat.sub_self, decM]
  simp
theorem list_comb {α : Type} (dec : List UInt8 → Option (α × List UInt8)) (s : St) :
    (rest (s.bind decN) = none → s.bind (decL dec) = none ∧ val 0 (s.bind decN) = 0) ∧
    (∀ r, rest (s.bind decN) = some r → s.bind (decL dec) = if val 0 (s.bind decN) ≤ r.length then decM dec (val 0 (s.bind decN)) r else none) := by
  rcases s with _ | l
  · exact ⟨fun _ => ⟨rfl, rfl⟩, (fun r h => by cases h)⟩
  · simp only [Option.bind_some, decL]
    rcases hd : decN l with _ | ⟨z, r1⟩
    · exact ⟨fun _ => ⟨rfl, rfl⟩, (fun r h => by cases h)⟩
    · refine ⟨(fun h => by cases h), fun r h => ?_⟩
      have hr' : r1 = r := by injection h
      subst hr'
      rfl
theorem infoString : (Try.prog.info? 9).map (fun i => (i.zero, i.size, i.bytes)) = some (some (.string ByteArray.empty), 1, 16) := by kernel_rfl
theorem infoInt : (Try.prog.info? 3).map (fun i => (i.zero, i.size, i.bytes)) = some (some (.int .i64 0), 1, 8) := by kernel_rfl

theorem tl_push {α : Type} {T E : TypeId} {enc : α → List UInt8} {dec : List UInt8 → Option (α × List UInt8)} {ok : α → Prop} (C : Codec enc dec ok) {c : α → Value} {z : α} {g n : Nat} {tgt : Option (List α × List UInt8)} {w wr w2 w3 : World} {A : Option Addr} {cap : Nat} {dl : List α} {r : List UInt8} {v' u : Value} {t : TypeId}
    (hn : dl.length < n) (hg : g < w.heap.size) (hown2 : w2.ownsRow w.heap.size E 1 (.slice A dl.length cap) dl.length (dl.map c))
    (hgrw : w.grownBy wr (some g)) (hl : r.length ≤ 1099511627776) (ht : tgt = (decM dec (n - dl.length) r).map fun q => (dl ++ q.1, q.2))
    (h2 : Rd T w2 g (rest (dec r))) (h3 : wr.grownBy w2 (some g))
    (hown' : w3.ownsRow w.heap.size E 1 v' (dl.length + 1) (dl.map c ++ [c (val z (dec r))])) (hgrow : (w2.alloc (.cells #[u] t)).grownBy w3 (Value.ownBlock (.slice A dl.length cap))) :
    ∃ A' cap', v' = .slice A' (dl.length + 1) cap' ∧ TLat T E dec c g n tgt w v' w3 A' cap' (dl ++ [val z (dec r)]) (rest (dec r)) := by
  have hshape : ∃ A' cap', v' = .slice A' (dl.length + 1) cap' := by
    rcases hown'.2 with ⟨_, h0⟩ | ⟨g', cap', cur, rfl, _⟩
    · omega
    · exact ⟨_, _, rfl⟩
  obtain ⟨A', cap', rfl⟩ := hshape
  refine ⟨A', cap', rfl, ?_⟩
  have hT := tl_tgt (z := z) hn ht
  have hne : ∀ k, Value.ownBlock (.slice A dl.length cap) = some k → w.heap.size ≤ k := fun k hk => (hown2.lt k hk).1
  have hglt : g < w2.heap.size := blk_lt h2
  have h4 := grown_trans hgrw h3
  have h5 := hgrow.size
  have h6 := h4.size
  simp only [World.size_alloc] at h5
  refine ⟨by simp, by simp; omega, ?_, ?_, ?_, ?_, hT.1, hT.2⟩
  · exact own_cong hown' (by simp) (by simp)
  · unfold Rd at h2 ⊢
    rw [hgrow.block g (by simp; omega) (fun e => by have := hne g e.symm; omega), ← h2]
    exact Below.heap_alloc w2 _ g hglt
  · refine ⟨hgrow.os.trans h4.os, hgrow.tape.trans h4.tape, hgrow.output.trans h4.output, by omega, ?_⟩
    intro k hk hkg
    rw [hgrow.block k (by simp; omega) (fun e => by have := hne k e.symm; omega), Below.heap_alloc w2 _ k (by omega)]
    exact h4.block k hk hkg
  · exact Nat.le_trans (lft_rest C (some r)) hl
theorem tl_none {α : Type} {T E : TypeId} {c : α → Value} {g : Nat} {tgt : Option (List α × List UInt8)} {w wr : World} (h : tgt = none) (h2 : Rd T wr g none) (h3 : w.grownBy wr (some g)) :
    LRes T E g w ((val [] tgt).map c) (rest tgt) (.returned (.slice none 0 0)) wr := by
  subst h
  exact ⟨none, 0, rfl, World.ownsRow_nil _ _ _ _, h2, h3⟩
theorem tl_some {α : Type} {T E : TypeId} {c : α → Value} {g : Nat} {tgt : Option (List α × List UInt8)} {w wr : World} {A : Option Addr} {cap : Nat} {dl : List α} {r : List UInt8} (h : tgt = some (dl, r))
    (hown : wr.ownsRow w.heap.size E 1 (.slice A dl.length cap) dl.length (dl.map c)) (h2 : Rd T wr g (some r)) (h3 : w.grownBy wr (some g)) :
    LRes T E g w ((val [] tgt).map c) (rest tgt) (.returned (.slice A dl.length cap)) wr := by
  subst h
  have e : ((val [] (some (dl, r))).map c).length = dl.length := by simp [val]
  refine ⟨A, cap, ?_, ?_, h2, h3⟩
  · rw [e]
  · rw [e]; exact hown
theorem own_far {w w' : World} {base g n : Nat} {E : TypeId} {v : Value} {xs : List Value} (h : w.ownsRow base E 1 v n xs) (hg : g < base) (hgr : w.grownBy w' (some g)) : w'.ownsRow base E 1 v n xs :=
  h.kept hgr (by
    rcases ho : v.ownBlock with _ | k
    · exact .inl rfl
    · right
      intro e
      have e2 : k = g := by injection e
      have := (h.lt k ho).1
      omega)
theorem tl_start {α : Type} {T E : TypeId} {dec : List UInt8 → Option (α × List UInt8)} {c : α → Value} {g n : Nat} {tgt : Option (List α × List UInt8)} {w wr : World} {r : List UInt8} (h : tgt = decM dec n r) (hl : r.length ≤ 1099511627776) (h2 : Rd T wr g (some r)) (h3 : w.grownBy wr (some g)) :
    TL T E dec c g n tgt w (.slice none 0 0) wr := by
  refine ⟨none, 0, [], some r, rfl, by simp, World.ownsRow_nil _ _ _ _, h2, h3, hl, (fun h => by cases h), fun r' hr => ?_⟩
  obtain rfl : r = r' := by injection hr
  rw [h, List.length_nil, Nat.sub_zero]
  rcases decM dec n r with _ | ⟨q1, q2⟩ <;> rfl
def lenOf : Value → Nat
  | .slice _ k _ => k
  | _ => 0
def sv (s : List UInt8) : Value := .string (B s)

set_option maxHeartbeats 1000000 in
set_option maxRecDepth 100000 in
theorem takeListString_any (g : Nat) (s : St) (w : World) (h : Rd 59 w g s) (hl : (lft s).length ≤ 1099511627776) :
    Calls Try.prog 56 #[.pointer (some ⟨g, 0, none⟩), .func (.func 30) #[.pointer (some ⟨g, 0, none⟩)] #[]] w
      (LRes 59 9 g w ((val [] (s.bind (decL decT))).map sv) (rest (s.bind (decL decT)))) := by
  obtain ⟨i0, hi, hz0, hz1, hz2⟩ := info_parts infoString
  have hgw : g < w.heap.size := blk_lt h
  have HN := Lib.hid (num_any g s w h hl)
  have hcomb := list_comb decT s
  have hl2 : (lft (rest (s.bind decN))).length ≤ 1099511627776 := Nat.le_trans (lft_rest codecN s) hl
  have hnlt := val_lt s
  obtain ⟨n, hn⟩ : ∃ n, n = val 0 (s.bind decN) := ⟨_, rfl⟩
  obtain ⟨s1, hs1⟩ : ∃ s1, s1 = rest (s.bind decN) := ⟨_, rfl⟩
  obtain ⟨tgt, htgt⟩ : ∃ tgt, tgt = s.bind (decL decT) := ⟨_, rfl⟩
  rw [← hn, ← hs1] at HN
  rw [← hn, ← hs1, ← htgt] at hcomb
  rw [← hs1] at hl2
  rw [← hn] at hnlt
  rw [← htgt]
  have hn0 : (0 : Int) ≤ n := by omega
  have hn1 : (n : Int) ≤ 9223372036854775807 := by omega
  clear hn hs1 htgt h hl
  rcases s1 with _ | r
  · obtain ⟨ht, hz⟩ := hcomb.1 rfl
    subst hz
    clear hcomb hl2 hnlt
    have HT := Lib.hid ht
    clear ht
    go_enter Try.func56, Try.ntmps56
    go_wp2_with fail
    refine HN.out.mono ?_
    rintro e w1 ⟨rfl, h2, h3⟩
    have c0 : w1.cell? ⟨g, 0, none⟩ = some (.string (B (lft none))) := cell_at h2 0
    have c1 : w1.cell? ⟨g, 1, none⟩ = some (.bool true) := cell_at h2 1
    have R := Lib.hid (tl_none (c := sv) (E := 9) HT.out h2 h3)
    clear h2 h3
    go_wp2_with fail
    refine wp_loop_rounds 1 ?_
    rw [rounds_succ]
    go_wp2
    go_ret
    exact R.out
  · have hcb := hcomb.2 r rfl
    have hrl : r.length ≤ 1099511627776 := hl2
    have hrl2 : (r.length : Int) ≤ 1099511627776 := by omega
    clear hcomb hl2
    by_cases hnr : n ≤ r.length
    · rw [if_pos hnr] at hcb
      have hnr2 : (n : Int) ≤ r.length := by omega
      have HCB := Lib.hid hcb
      clear hcb hnlt
      go_enter Try.func56, Try.ntmps56
      go_wp2_with fail
      refine HN.out.mono ?_
      rintro e w1 ⟨rfl, h2, h3⟩
      have c0 : w1.cell? ⟨g, 0, none⟩ = some (.string (B r)) := cell_at h2 0
      have H2 := Lib.hid h2
      have H3 := Lib.hid h3
      clear h2 h3
      go_wp2_with fail
      go_loopw [6] (fun o wr => TL 59 9 decT sv g n tgt w o wr) (fun o _ => n - lenOf o)
      case atStart => exact tl_start HCB.out hrl H2.out H3.out
      case round =>
        obtain ⟨A, cap, dl, st, rfl, hdn, hown, hrd, hgr, hll, hno, hyes⟩ := hrel
        have hdn2 : (dl.length : Int) ≤ n := by omega
        have d1 : wr.cell? ⟨g, 1, none⟩ = some (.bool st.isNone) := cell_at hrd 1
        have d0 : wr.cell? ⟨g, 0, none⟩ = some (.string (B (lft st))) := cell_at hrd 0
        clear c0
        rcases st with _ | r1
        · have R := Lib.hid (tl_none (c := sv) (E := 9) (hno rfl) hrd hgr)
          clear hown hrd hgr hno hyes
          rcases Nat.lt_or_ge dl.length n with hlt | hge
          · have hlt2 : (dl.length : Int) < n := by omega
            go_wp2
            go_ret
            exact R.out
          · have hge2 : (n : Int) ≤ dl.length := by omega
            go_wp2
            go_ret
            exact R.out
        · rcases Nat.lt_or_ge dl.length n with hlt | hge
          · have hlt2 : (dl.length : Int) < n := by omega
            have HE := Lib.hid (text_any g (some r1) wr hrd hll)
            have HY := Lib.hid (hyes r1 rfl)
            have HG := Lib.hid hgr
            have hll1 : r1.length ≤ 1099511627776 := hll
            clear hrd hgr hno hyes hll
            go_wp2_with fail
            refine HE.out.mono ?_
            rintro e w2 ⟨rfl, h4, h5⟩
            have hown2 := own_far hown hgw h5
            have hsz2 : w.heap.size ≤ w2.heap.size := Nat.le_trans HG.out.size h5.size
            have H4 := Lib.hid h4
            have H5 := Lib.hid h5
            clear h4 h5 hown d0 d1
            obtain ⟨x, hx⟩ : ∃ x, x = val [] (decT r1) := ⟨_, rfl⟩
            have hx2 : val [] ((some r1).bind decT) = x := hx.symm
            rw [hx2]
            have HX := Lib.hid hx
            clear hx hx2
            go_wp2_with (at_builtin; refine wpList_append_own _ rfl _ _ 22 rfl w.heap.size 9 i0 (.string ByteArray.empty) 1 16 Try.underlying22 hi hz0 hz1 hz2 rfl (by decide) _ _ _ rfl (hown2.alloc _) ⟨w2.heap.size, 0, none⟩ 1 1 [.string (B x)] rfl rfl one_cell (fun u hu => by simp at hu; subst hu; rfl) (by unfold maxLen; omega) (by omega) (by simp; omega) ?_)
            intro v' w3 hown3 hgrow _
            have hx := HX.out
            subst hx
            obtain ⟨A', cap', rfl, R⟩ := tl_push codecT (z := []) hlt hgw hown2 HG.out hll1 HY.out H4.out H5.out hown3 hgrow
            have HR := Lib.hid R
            clear hown3 hgrow hown2 R
            go_wp2
            go_roundw
            case rel => exact ⟨_, _, _, _, HR.out⟩
            case measure => simp [lenOf]; omega
          · have hge2 : (n : Int) ≤ dl.length := by omega
            have ht := tl_stop (by omega) (hyes r1 rfl)
            have R := Lib.hid (tl_some (c := sv) ht hown hrd hgr)
            clear hown hrd hgr hno hyes ht
            go_wp2
            go_ret
            exact R.out
    · rw [if_neg hnr] at hcb
      have hnr2 : (r.length : Int) < n := by omega
      have HT := Lib.hid hcb
      clear hcb hnlt
      go_enter Try.func56, Try.ntmps56
      go_wp2_with fail
      refine HN.out.mono ?_
      rintro e w1 ⟨rfl, h2, h3⟩
      have c0 : w1.cell? ⟨g, 0, none⟩ = some (.string (B r)) := cell_at h2 0
      have HF := Lib.hid (fail_any g _ w1 h2)
      have H3 := Lib.hid h3
      clear h2 h3
      go_wp2_with fail
      refine HF.out.mono ?_
      rintro e w2 ⟨rfl, h4, h5⟩
      have c1 : w2.cell? ⟨g, 1, none⟩ = some (.bool true) := cell_at h4 1
      have R := Lib.hid (tl_none (c := sv) (E := 9) HT.out h4 (grown_trans H3.out h5))
      have hpos : (0 : Int) < n := by omega
      clear h4 h5
      go_wp2_with fail
      refine wp_loop_rounds 1 ?_
      rw [rounds_succ]
      go_wp2
      go_ret
      exact R.out

set_option maxHeartbeats 1000000 in
set_option maxRecDepth 100000 in
theorem takeListInt_any (g : Nat) (s : St) (w : World) (h : Rd 59 w g s) (hl : (lft s).length ≤ 1099511627776) :
    Calls Try.prog 58 #[.pointer (some ⟨g, 0, none⟩), .func (.func 28) #[.pointer (some ⟨g, 0, none⟩)] #[]] w
      (LRes 59 3 g w ((val [] (s.bind (decL decI))).map (Value.int .i64)) (rest (s.bind (decL decI)))) := by
  obtain ⟨i0, hi, hz0, hz1, hz2⟩ := info_parts infoInt
  have hgw : g < w.heap.size := blk_lt h
  have HN := Lib.hid (num_any g s w h hl)
  have hcomb := list_comb decI s
  have hl2 : (lft (rest (s.bind decN))).length ≤ 1099511627776 := Nat.le_trans (lft_rest codecN s) hl
  have hnlt := val_lt s
  obtain ⟨n, hn⟩ : ∃ n, n = val 0 (s.bind decN) := ⟨_, rfl⟩
  obtain ⟨s1, hs1⟩ : ∃ s1, s1 = rest (s.bind decN) := ⟨_, rfl⟩
  obtain ⟨tgt, htgt⟩ : ∃ tgt, tgt = s.bind (decL decI) := ⟨_, rfl⟩
  rw [← hn, ← hs1] at HN
  rw [← hn, ← hs1, ← htgt] at hcomb
  rw [← hs1] at hl2
  rw [← hn] at hnlt
  rw [← htgt]
  have hn0 : (0 : Int) ≤ n := by omega
  have hn1 : (n : Int) ≤ 9223372036854775807 := by omega
  clear hn hs1 htgt h hl
  rcases s1 with _ | r
  · obtain ⟨ht, hz⟩ := hcomb.1 rfl
    subst hz
    clear hcomb hl2 hnlt
    have HT := Lib.hid ht
    clear ht
    go_enter Try.func58, Try.ntmps58
    go_wp2_with fail
    refine HN.out.mono ?_
    rintro e w1 ⟨rfl, h2, h3⟩
    have c0 : w1.cell? ⟨g, 0, none⟩ = some (.string (B (lft none))) := cell_at h2 0
    have c1 : w1.cell? ⟨g, 1, none⟩ = some (.bool true) := cell_at h2 1
    have R := Lib.hid (tl_none (c := (Value.int .i64)) (E := 3) HT.out h2 h3)
    clear h2 h3
    go_wp2_with fail
    refine wp_loop_rounds 1 ?_
    rw [rounds_succ]
    go_wp2
    go_ret
    exact R.out
  · have hcb := hcomb.2 r rfl
    have hrl : r.length ≤ 1099511627776 := hl2
    have hrl2 : (r.length : Int) ≤ 1099511627776 := by omega
    clear hcomb hl2
    by_cases hnr : n ≤ r.length
    · rw [if_pos hnr] at hcb
      have hnr2 : (n : Int) ≤ r.length := by omega
      have HCB := Lib.hid hcb
      clear hcb hnlt
      go_enter Try.func58, Try.ntmps58
      go_wp2_with fail
      refine HN.out.mono ?_
      rintro e w1 ⟨rfl, h2, h3⟩
      have c0 : w1.cell? ⟨g, 0, none⟩ = some (.string (B r)) := cell_at h2 0
      have H2 := Lib.hid h2
      have H3 := Lib.hid h3
      clear h2 h3
      go_wp2_with fail
      go_loopw [6] (fun o wr => TL 59 3 decI (Value.int .i64) g n tgt w o wr) (fun o _ => n - lenOf o)
      case atStart => exact tl_start HCB.out hrl H2.out H3.out
      case round =>
        obtain ⟨A, cap, dl, st, rfl, hdn, hown, hrd, hgr, hll, hno, hyes⟩ := hrel
        have hdn2 : (dl.length : Int) ≤ n := by omega
        have d1 : wr.cell? ⟨g, 1, none⟩ = some (.bool st.isNone) := cell_at hrd 1
        have d0 : wr.cell? ⟨g, 0, none⟩ = some (.string (B (lft st))) := cell_at hrd 0
        clear c0
        rcases st with _ | r1
        · have R := Lib.hid (tl_none (c := (Value.int .i64)) (E := 3) (hno rfl) hrd hgr)
          clear hown hrd hgr hno hyes
          rcases Nat.lt_or_ge dl.length n with hlt | hge
          · have hlt2 : (dl.length : Int) < n := by omega
            go_wp2
            go_ret
            exact R.out
          · have hge2 : (n : Int) ≤ dl.length := by omega
            go_wp2
            go_ret
            exact R.out
        · rcases Nat.lt_or_ge dl.length n with hlt | hge
          · have hlt2 : (dl.length : Int) < n := by omega
            have HE := Lib.hid (int_any g (some r1) wr hrd hll)
            have HY := Lib.hid (hyes r1 rfl)
            have HG := Lib.hid hgr
            have hll1 : r1.length ≤ 1099511627776 := hll
            clear hrd hgr hno hyes hll
            go_wp2_with fail
            refine HE.out.mono ?_
            rintro e w2 ⟨rfl, h4, h5⟩
            have hown2 := own_far hown hgw h5
            have hsz2 : w.heap.size ≤ w2.heap.size := Nat.le_trans HG.out.size h5.size
            have H4 := Lib.hid h4
            have H5 := Lib.hid h5
            clear h4 h5 hown d0 d1
            obtain ⟨x, hx⟩ : ∃ x, x = val 0 (decI r1) := ⟨_, rfl⟩
            have hx2 : val 0 ((some r1).bind decI) = x := hx.symm
            rw [hx2]
            have HX := Lib.hid hx
            clear hx hx2
            go_wp2_with (at_builtin; refine wpList_append_own _ rfl _ _ 23 rfl w.heap.size 3 i0 (.int .i64 0) 1 8 Try.underlying23 hi hz0 hz1 hz2 rfl (by decide) _ _ _ rfl (hown2.alloc _) ⟨w2.heap.size, 0, none⟩ 1 1 [.int .i64 x] rfl rfl one_cell (fun u hu => by simp at hu; subst hu; rfl) (by unfold maxLen; omega) (by omega) (by simp; omega) ?_)
            intro v' w3 hown3 hgrow _
            have hx := HX.out
            subst hx
            obtain ⟨A', cap', rfl, R⟩ := tl_push codecI (z := 0) hlt hgw hown2 HG.out hll1 HY.out H4.out H5.out hown3 hgrow
            have HR := Lib.hid R
            clear hown3 hgrow hown2 R
            go_wp2
            go_roundw
            case rel => exact ⟨_, _, _, _, HR.out⟩
            case measure => simp [lenOf]; omega
          · have hge2 : (n : Int) ≤ dl.length := by omega
            have ht := tl_stop (by omega) (hyes r1 rfl)
            have R := Lib.hid (tl_some (c := (Value.int .i64)) ht hown hrd hgr)
            clear hown hrd hgr hno hyes ht
            go_wp2
            go_ret
            exact R.out
    · rw [if_neg hnr] at hcb
      have hnr2 : (r.length : Int) < n := by omega
      have HT := Lib.hid hcb
      clear hcb hnlt
      go_enter Try.func58, Try.ntmps58
      go_wp2_with fail
      refine HN.out.mono ?_
      rintro e w1 ⟨rfl, h2, h3⟩
      have c0 : w1.cell? ⟨g, 0, none⟩ = some (.string (B r)) := cell_at h2 0
      have HF := Lib.hid (fail_any g _ w1 h2)
      have H3 := Lib.hid h3
      clear h2 h3
      go_wp2_with fail
      refine HF.out.mono ?_
      rintro e w2 ⟨rfl, h4, h5⟩
      have c1 : w2.cell? ⟨g, 1, none⟩ = some (.bool true) := cell_at h4 1
      have R := Lib.hid (tl_none (c := (Value.int .i64)) (E := 3) HT.out h4 (grown_trans H3.out h5))
      have hpos : (0 : Int) < n := by omega
      clear h4 h5
      go_wp2_with fail
      refine wp_loop_rounds 1 ?_
      rw [rounds_succ]
      go_wp2
      go_ret
      exact R.out

set_option maxHeartbeats 400000 in
theorem list_any (g : Nat) (s : St) (w : World) (h : Rd 59 w g s) (hl : (lft s).length ≤ 1099511627776) :
    Calls Try.prog 33 #[.pointer (some ⟨g, 0, none⟩)] w
      (LRes 59 9 g w ((val [] (s.bind (decL decT))).map sv) (rest (s.bind (decL decT)))) := by
  have hmf : ∀ (fn : Fn) (first cap : Array Value) (w : World), (Instr.makeFunc fn first cap).run Try.prog w = .ok (.func fn first cap) w := fun _ _ _ _ => rfl
  have H := Lib.hid (takeListString_any g s w h hl)
  clear h
  obtain ⟨xs, hx⟩ : ∃ xs, xs = (val [] (s.bind (decL decT))).map sv := ⟨_, rfl⟩
  rw [← hx] at H ⊢
  clear hx
  go_enter Try.func33, Try.ntmps33
  go_wp2_with fail
  refine H.out.mono ?_
  rintro e w1 ⟨A, c, rfl, h2, h3, h4⟩
  go_wp2
  go_ret
  exact ⟨A, c, rfl, h2, h3, h4⟩

set_option maxHeartbeats 400000 in
theorem nums_any (g : Nat) (s : St) (w : World) (h : Rd 59 w g s) (hl : (lft s).length ≤ 1099511627776) :
    Calls Try.prog 36 #[.pointer (some ⟨g, 0, none⟩)] w
      (LRes 59 3 g w ((val [] (s.bind (decL decI))).map (Value.int .i64)) (rest (s.bind (decL decI)))) := by
  have hmf : ∀ (fn : Fn) (first cap : Array Value) (w : World), (Instr.makeFunc fn first cap).run Try.prog w = .ok (.func fn first cap) w := fun _ _ _ _ => rfl
  have H := Lib.hid (takeListInt_any g s w h hl)
  clear h
  obtain ⟨xs, hx⟩ : ∃ xs, xs = (val [] (s.bind (decL decI))).map (Value.int .i64) := ⟨_, rfl⟩
  rw [← hx] at H ⊢
  clear hx
  go_enter Try.func36, Try.ntmps36
  go_wp2_with fail
  refine H.out.mono ?_
  rintro e w1 ⟨A, c, rfl, h2, h3, h4⟩
  go_wp2
  go_ret
  exact ⟨A, c, rfl, h2, h3, h4⟩
end Go.Proofs.Ytcgbamloemdilaa
