/-
  Layer 6: the landed package: mask, the loop over the stream.
-/
import Derived.Test.YtgldbfdiebkfiaaDoorSealStrm
import Derived.RangeFuncFrom
namespace Go.Proofs.YtgldbfdiebkfiaaDoor
open Go.RowKit Go.Shelf
namespace Se
attribute [local go_sem] Oper.semAt_some S3.B_size S3.B_app S3.B_list S3.B_take S3.B_drop'

/-! ### What the rounds do to the bytes -/
def app (l : List UInt8) (x : Nat × UInt8) : List UInt8 := l.set x.1 (l.getD x.1 0 ^^^ x.2)
def apps (s : List UInt8) (pre : List (Nat × UInt8)) : List UInt8 := pre.foldl app s
theorem apps_len (s : List UInt8) : ∀ pre : List (Nat × UInt8), (apps s pre).length = s.length := by
  intro pre
  unfold apps
  induction pre generalizing s with
  | nil => rfl
  | cons x r ih => rw [List.foldl_cons, ih]; simp [app]
theorem apps_snoc (s : List UInt8) (pre : List (Nat × UInt8)) (x : Nat × UInt8) : apps s (pre ++ [x]) = app (apps s pre) x := by
  unfold apps
  rw [List.foldl_append]
  rfl
theorem app_mid (q r : List UInt8) (a b : UInt8) (j : Nat) (h : q.length = j) : app (q ++ a :: r) (j, b) = (q ++ [a ^^^ b]) ++ r := by
  subst h
  simp [app, List.getD_eq_getElem?_getD]
theorem apps_upto (k n s : List UInt8) : ∀ j, j ≤ s.length → apps s (upto k n j) = mix k n (s.take j) ++ s.drop j := by
  intro j
  induction j with
  | zero => intro _; simp [apps, upto, mix, mixFrom]
  | succ j ih =>
    intro h
    have hd : s.drop j = s[j] :: s.drop (j + 1) := (List.getElem_cons_drop (by omega)).symm
    have hs : s.getD j 0 = s[j] := by rw [List.getD_eq_getElem?_getD, List.getElem?_eq_getElem (by omega)]; rfl
    rw [upto_succ, apps_snoc, ih (by omega), hd, app_mid _ _ _ _ _ (by rw [mix_len, List.length_take]; omega), mix_step k n s j (by omega), hs]
theorem apps_all (k n s : List UInt8) : apps s (upto k n s.length) = mix k n s := by
  rw [apps_upto k n s s.length (Nat.le_refl _)]
  simp

/-! ### The bytes in memory -/
theorem holdsU_frozen {w : World} {base g n cap : Nat} {l : List UInt8} (h : S3.holdsU w base (.slice (some ⟨g, 0, none⟩) n cap) l) (i : Nat) (hi : i < l.length) : w.frozen? ⟨g, i, none⟩ = false := by
  obtain ⟨g', cap', cur, fr, hv, _, hg, hfr, hlc, _, hcs, _⟩ := h
  cases hv
  simp only [World.frozen?, hg]
  rcases hfr with h0 | h0
  · simp [h0]
  · have : ¬ fr.1 ≤ i := by omega
    simp [this]
theorem holdsU_get {w : World} {base g n cap : Nat} {l : List UInt8} (h : S3.holdsU w base (.slice (some ⟨g, 0, none⟩) n cap) l) (i : Nat) (hi : i < l.length) : w.cell? ⟨g, i, none⟩ = some (.int .u8 ((l.getD i 0).toNat : Nat)) := by
  have := S3.holdsU_cells h i (.int .u8 ((l.getD i 0).toNat : Nat)) (by simp [S3.U, List.getD_eq_getElem?_getD, List.getElem?_eq_getElem hi])
  have hadd : (⟨g, 0, none⟩ : Addr).add i = ⟨g, i, none⟩ := by unfold Addr.add; split <;> simp_all
  rwa [hadd] at this
theorem holdsU_set {w : World} {base g n cap : Nat} {l : List UInt8} (h : S3.holdsU w base (.slice (some ⟨g, 0, none⟩) n cap) l) (i : Nat) (b : UInt8) : S3.holdsU (w.setCell ⟨g, i, none⟩ (.int .u8 (b.toNat : Nat))) base (.slice (some ⟨g, 0, none⟩) n cap) (l.set i b) := by
  obtain ⟨g', cap', cur, fr, hv, hb, hg, hfr, hlc, hcm, hcs, ht⟩ := h
  cases hv
  rw [setCell_eq_setRow w g i cur _ fr _ hg]
  refine ⟨g, cap, _, fr, by simp, hb, setRow_heap w g cur _ _ fr hg, by simpa using hfr, by simpa using hlc, hcm, by simpa using hcs, ?_⟩
  rw [Array.toList_setIfInBounds, List.length_set, List.take_set, ht]
  simp [S3.U, List.map_set]
theorem holdsU_grown {w w' : World} {row : Option Nat} {base : Nat} {v : Value} {l : List UInt8} (h : S3.holdsU w base v l) (hg : w.grownBy w' row) (hr : ∀ r, row = some r → ∃ o : Obj, w.heap[r]? = some o ∧ o.isCells = false) : S3.holdsU w' base v l := by
  obtain ⟨g, cap, cur, fr, hv, hb, hk, hrest⟩ := h
  refine ⟨g, cap, cur, fr, hv, hb, (hg.block g (Array.getElem?_eq_some_iff.1 hk).1 (fun e => ?_)).trans hk, hrest⟩
  obtain ⟨o, ho, hc⟩ := hr g e.symm
  rw [hk] at ho
  cases ho
  cases hc
theorem bl_grown {w w' : World} {row : Option Nat} {g : Nat} {cs : List Value} {t : TypeId} (h : Lk.Bl w g cs t) (hg : w.grownBy w' row) (hr : ∀ r, row = some r → ∃ o : Obj, w.heap[r]? = some o ∧ o.isCells = false) : Lk.Bl w' g cs t := by
  refine ⟨(hg.block g h.lt (fun e => ?_)).trans h.row⟩
  obtain ⟨o, ho, hc⟩ := hr g e.symm
  rw [h.row] at ho
  cases ho
  cases hc
theorem bl_set {w : World} {g o i : Nat} {cs : List Value} {t : TypeId} (h : Lk.Bl w g cs t) (v : Value) (hne : g ≠ o) : Lk.Bl (w.setCell ⟨o, i, none⟩ v) g cs t := ⟨(Below.heap_setCell _ _ _ _ hne).trans h.row⟩

set_option maxHeartbeats 1000000 in
theorem stream_any (k n : List UInt8) (N : Nat) (w : World) :
    Calls Tryd.prog 46 #[.string (S3.B k), .string (S3.B n), .int .i64 (N : Int)] w fun e w' => e = .returned (.func (.func 56) #[] #[.pointer (some ⟨w.heap.size + 1 + 1, 0, none⟩), .pointer (some ⟨w.heap.size, 0, none⟩), .pointer (some ⟨w.heap.size + 1, 0, none⟩)]) ∧ w' = ((w.alloc (.cells #[.string (S3.B k)] 9)).alloc (.cells #[.string (S3.B n)] 9)).alloc (.cells #[.int .i64 (N : Int)] 3) := by
  go_enter Tryd.func46, Tryd.ntmps46
  go_wp2
  go_ret
  exact ⟨rfl, rfl⟩

set_option maxHeartbeats 4000000 in
set_option maxRecDepth 100000 in
theorem pmask_ok (W : World) (hW : S3.Laid W) (k n s : List UInt8) (hl : k.length + n.length + s.length ≤ 3700) : S5.Sg.Ok W 24 #[.string (S3.B k), .string (S3.B n), .string (S3.B s)] (.string (S3.B (mix k n s))) := by
  intro w hb
  have hLw := Lk.laid_below hW hb
  refine Calls.mono (R := fun e w' => e = .returned (.string (S3.B (mix k n s))) ∧ Below w.heap.size w w') ?_ (fun e w' h => ⟨h.1, hb.trans (h.2.mono hb.size)⟩)
  clear hb hW
  have hN : s.length ≤ 3700 := by omega
  have hkn : k.length + n.length ≤ 3700 := by omega
  obtain ⟨v0, wc, hcv, hu0, hb0⟩ := S3.conv_made s w w.heap.size (by unfold maxLen; omega) (Nat.le_refl _)
  obtain ⟨g, cap, rfl⟩ := S3.holdsU_len hu0
  obtain ⟨hg1, hg2⟩ := S3.holdsU_lt hu0 g rfl
  refine (callsIn_wide (n := 6)).1 ?_
  refine callsIn_of_wp_marks Tryd.func24 rfl trivial ?_ rfl
  simp only [Tryd.ntmps24, List.size_toArray, List.length_cons, List.length_nil, Nat.reduceAdd, Nat.reduceSub, Array.replicate_succ, Array.replicate_zero, List.push_toArray, List.append_toArray, List.nil_append, List.cons_append]
  have HL := Lib.hid hl
  have HU := Lib.hid hu0
  clear hl hu0
  gi_wp2_with (refine ⟨trivial, ?_⟩; gi_at_call 46; refine (callsIn_wide.2 (stream_any k n s.length _)).mono ?_; rintro e w' ⟨rfl, rfl⟩)
  obtain ⟨W4, hW4⟩ : ∃ x, x = (((wc.alloc (.cells #[.slice (some ⟨g, 0, none⟩) s.length cap] 61)).alloc (.cells #[.string (S3.B k)] 9)).alloc (.cells #[.string (S3.B n)] 9)).alloc (.cells #[.int .i64 (s.length : Int)] 3) := ⟨_, rfl⟩
  rw [← hW4]
  have hsz : W4.heap.size = wc.heap.size + 4 := by rw [hW4]; simp
  have hB4 : Below wc.heap.size wc W4 := by rw [hW4]; exact ((((Below.refl wc.heap.size wc).alloc (Nat.le_refl _) _).alloc (by simp) _).alloc (by simp; omega) _).alloc (by simp; omega) _
  have b0 : Lk.Bl W4 wc.heap.size [.slice (some ⟨g, 0, none⟩) s.length cap] 61 := by rw [hW4]; exact (((Lk.Bl.new wc [.slice (some ⟨g, 0, none⟩) s.length cap] 61).alloc _).alloc _).alloc _
  have b1 : Lk.Bl W4 (wc.heap.size + 1) [.string (S3.B k)] 9 := by
    have h := Lk.Bl.new (wc.alloc (.cells #[.slice (some ⟨g, 0, none⟩) s.length cap] 61)) [.string (S3.B k)] 9
    rw [World.size_alloc] at h
    rw [hW4]; exact (h.alloc _).alloc _
  have b2 : Lk.Bl W4 (wc.heap.size + 1 + 1) [.string (S3.B n)] 9 := by
    have h := Lk.Bl.new ((wc.alloc (.cells #[.slice (some ⟨g, 0, none⟩) s.length cap] 61)).alloc (.cells #[.string (S3.B k)] 9)) [.string (S3.B n)] 9
    rw [World.size_alloc, World.size_alloc] at h
    rw [hW4]; exact h.alloc _
  have b3 : Lk.Bl W4 (wc.heap.size + 1 + 1 + 1) [.int .i64 (s.length : Int)] 3 := by
    have h := Lk.Bl.new (((wc.alloc (.cells #[.slice (some ⟨g, 0, none⟩) s.length cap] 61)).alloc (.cells #[.string (S3.B k)] 9)).alloc (.cells #[.string (S3.B n)] 9)) [.int .i64 (s.length : Int)] 3
    rw [World.size_alloc, World.size_alloc, World.size_alloc] at h
    rw [hW4]; exact h
  have hBw : Below w.heap.size w W4 := hb0.trans (hB4.mono hb0.size)
  have hu4 : S3.holdsU W4 w.heap.size (.slice (some ⟨g, 0, none⟩) s.length cap) s := holdsU_grown (row := none) HU.out ⟨hB4.os, hB4.tape, hB4.output, hB4.size, fun q hq _ => hB4.block q hq⟩ (fun r e => by cases e)
  have hL4 := Lk.laid_below hLw hBw
  have hcon := hLw.big
  have hlo : 1 < g ∧ 0 < g := by omega
  clear hW4 hb0 hB4 hcv HU hcon
  refine wpIn_rangeFunc_ownF rfl (by omega) (gf := 56) (lb := #[.pointer (some ⟨wc.heap.size + 1 + 1 + 1, 0, none⟩), .pointer (some ⟨wc.heap.size + 1, 0, none⟩), .pointer (some ⟨wc.heap.size + 1 + 1, 0, none⟩)]) rfl trivial (enters_of Tryd.func56 (by kernel_rfl) rfl)
    (encs := encs (N := s.length)) (Kp := KpB W4.heap.size g) (S := fun xs => xs.map outp = upto k n s.length) (Sp := fun _ => True) (N := s.length) (w0 := W4)
    (fun l J Jx V hV hJ _ hY h0 => stream1_in 5 (by omega) l _ _ _ W4.heap.size g k n s.length hN hkn (by omega) hlo J Jx (fun x V1 V2 h hb => hJ x V1 V2 none h ⟨hb.os, hb.tape, hb.output, hb.size, fun q hq _ => hb.block q hq⟩ (fun r e => by cases e)) hY V hV.size (Lk.laid_below hL4 hV) ((b3.step hV).c 0 _ rfl) (b1.step hV) (b2.step hV) (by omega) (by omega) h0)
    KpB.trans (fun V l o o' h1 h2 _ _ => KpB.put V l o' h1) (Below.refl _ _) (fun _ => rfl)
    (fun pre V => (S3.holdsU V w.heap.size (.slice (some ⟨g, 0, none⟩) s.length cap) (apps s (pre.map outp)) ∧ Lk.Bl V wc.heap.size [.slice (some ⟨g, 0, none⟩) s.length cap] 61) ∧ Below w.heap.size w V)
    (fun _ _ _ => False)
    (OwnFrom.and (Own.from (fun x V1 V2 row hs hg hr => ⟨holdsU_grown hs.1 hg hr, bl_grown hs.2 hg hr⟩) _) (ownFrom_below (Nat.le_refl _) (by omega)))
    (fun _ _ _ _ _ hs _ _ => hs)
    ⟨⟨hu4, b0⟩, hBw⟩
    (fun x => { tmps := #[.string (S3.B k), .string (S3.B n), .string (S3.B s), undef, undef, undef, .string ⟨#[]⟩, .pointer (some ⟨wc.heap.size, 0, none⟩), .int .i64 (x.1.val : Int), .int .u8 (x.2.toNat : Nat), .string (S3.B s), .slice (some ⟨g, 0, none⟩) s.length cap, .string (S3.B k), .string (S3.B n), .string (S3.B s), .int .i64 (s.length : Int), .func (.func 56) #[] #[.pointer (some ⟨wc.heap.size + 1 + 1 + 1, 0, none⟩), .pointer (some ⟨wc.heap.size + 1, 0, none⟩), .pointer (some ⟨wc.heap.size + 1 + 1, 0, none⟩)], .int .i64 (x.1.val : Int), .int .u8 (x.2.toNat : Nat), undef, undef, undef, undef, undef, undef, undef, undef, undef], defers := [] }) ?assign ?body ?done ?stop
  case assign =>
    intro l x V K hK
    unfold encs
    gi_wp2
    exact hK
  case body =>
    rintro l pre ⟨⟨i, hi⟩, b⟩ V ⟨⟨hu, hbx⟩, hB⟩ _
    dsimp only
    have hlen := apps_len s (pre.map outp)
    obtain ⟨q, hq⟩ : ∃ q, q = apps s (pre.map outp) := ⟨_, rfl⟩
    have hnx : apps s ((pre ++ [((⟨i, hi⟩ : Fin s.length), b)]).map outp) = q.set i (q.getD i 0 ^^^ b) := by rw [List.map_append, List.map_singleton, apps_snoc, ← hq]; rfl
    rw [← hq] at hu hlen
    have hc := holdsU_get hu i (by omega)
    have hf := holdsU_frozen hu i (by omega)
    have hst := holdsU_set hu i (q.getD i 0 ^^^ b)
    have hc0 := hbx.c 0 _ rfl
    obtain ⟨a, ha⟩ : ∃ a, a = q.getD i 0 := ⟨_, rfl⟩
    rw [← ha] at hc hst hnx
    have hi' : (i : Int) < (s.length : Int) := by omega
    have HB := Lib.hid hB
    have HX := Lib.hid hbx
    have HST := Lib.hid hst
    have HNX := Lib.hid hnx
    clear hq hlen hu hbx hB hst hnx ha
    gi_wp2
    rw [xor8]
    exact ⟨KeepsOthers.setCell _ _ _, ⟨by simp [World.setCell], fun x _ hne => Below.heap_setCell _ _ _ _ hne⟩, ⟨by rw [HNX.out]; exact HST.out, bl_set HX.out _ (by omega)⟩, HB.out.setCell (p := ⟨g, i, none⟩) hg1 _⟩
  case done =>
    rintro D xs V hD hS ⟨⟨hu, hbx⟩, hB⟩ hK
    rw [hS, apps_all] at hu
    have hcb := S3.conv_back (l := mix k n s) (w := V) (base := w.heap.size) (v := .slice (some ⟨g, 0, none⟩) s.length cap) hu
    have hc0 := hbx.c 0 _ rfl
    clear hu hbx
    gi_wp2
    refine ⟨by simp, .inl ⟨_, _, rfl, run_takeDeferred hK, ?_⟩⟩
    exact ⟨_, results_tmp rfl _ _ _, rfl, hB.trans (belowK_b (w := w) (Nat.le_refl _) V D _ _ (by omega) hK rfl rfl)⟩
  case stop =>
    rintro D c pre V _ _ h _
    exact h.elim
end Se
end Go.Proofs.YtgldbfdiebkfiaaDoor
