/-
  Layer 10: after: an act on a log.
-/
import Derived.Test.YtihanhdepijijaaWalAftK
namespace Go.Proofs.Ytihanhdepijijaa
open Go.RowKit
namespace Wl
open S9.Dk (Dk Fr MD isI Rz)
attribute [local go_sem] S2.B_size S2.B_list
theorem hope_one (A1 A2 A3 : Option Addr) (n1 c1 n2 c2 n3 c3 : Nat) (t : Bool) : (#[Value.slice A1 n1 c1, .slice A2 n2 c2, .slice A3 n3 c3, .bool t] : Array Value).all (·.oneCell') = true := by
  refine Array.all_eq_true_iff_forall_mem.2 fun u hu => ?_
  simp only [List.mem_toArray, List.mem_cons, List.not_mem_nil, or_false] at hu
  rcases hu with rfl | rfl | rfl | rfl <;> rfl
set_option maxHeartbeats 2000000 in
set_option maxRecDepth 100000 in
theorem after_any (X : Nat → Prop) (x p : Nat) (R sf : List Str) (D : MD) (a : Ac) (As : Option Addr) (ns cs : Nat) (w : World) (hgood : Good c4 D 2 R sf) (hlg : Lg X w x p 2 R D) (hR : R.length ≤ 1000) (hin : a.In X w) (hfw : Few a) (hsl : Sl X w As ns cs sf) :
    Calls Try.prog 12 #[ptr p, ptr x, .agg #[.int .i64 a.Do, .string (S2.B a.S), .slice a.A a.L.length a.c, .int .i64 a.N, .slice a.A' a.K.length a.c'], .slice As ns cs] w fun e w' =>
      ∃ X' R' D' s' al sf' fr A n c A1 n1 c1 A2 n2 c2 A3 n3 c3 t, e = .returned (.tuple #[.slice A n c, .agg (hopeC A1 n1 c1 A2 n2 c2 A3 n3 c3 t)]) ∧ Aft X X' w w' x p R R' D' s' al sf' fr ∧
        Sl X' w' A n c s' ∧ Sl X' w' A1 n1 c1 al ∧ Sl X' w' A2 n2 c2 sf' ∧ Sl X' w' A3 n3 c3 fr := by
  have LG1 := Lib.hid (show Lg (fun k => X k ∨ k = w.heap.size ∨ k = w.heap.size + 1) ((w.alloc (.cells #[.int .i64 a.Do, .string (S2.B a.S), .slice a.A a.L.length a.c, .int .i64 a.N, .slice a.A' a.K.length a.c'] 36)).alloc (.cells #[.slice none 0 0, .slice none 0 0, .slice none 0 0, .bool false] 34)) x p 2 R D from
    hlg.more ((alloc_below w _).alloc (by simp) _) fun k hk => by rcases hk with hk | rfl | rfl; exact .inl hk; exact .inr ⟨Nat.le_refl _, by rw [World.size_alloc, World.size_alloc]; omega⟩; exact .inr ⟨by omega, by rw [World.size_alloc, World.size_alloc]; omega⟩)
  obtain ⟨wa, hwa⟩ : ∃ wa, wa = ((w.alloc (.cells #[.int .i64 a.Do, .string (S2.B a.S), .slice a.A a.L.length a.c, .int .i64 a.N, .slice a.A' a.K.length a.c'] 36)).alloc (.cells #[.slice none 0 0, .slice none 0 0, .slice none 0 0, .bool false] 34)) := ⟨_, rfl⟩
  have hwab : Below w.heap.size w wa := by rw [hwa]; exact (alloc_below w _).alloc (by simp) _
  have hwas : wa.heap.size = w.heap.size + 1 + 1 := by rw [hwa]; simp
  have hact : wa.heap[w.heap.size]? = some (.cells #[.int .i64 a.Do, .string (S2.B a.S), .slice a.A a.L.length a.c, .int .i64 a.N, .slice a.A' a.K.length a.c'] 36 (0, 0)) := by rw [hwa, Below.heap_alloc _ _ _ (by simp)]; exact heap_alloc_new w _
  have hzero : wa.heap[w.heap.size + 1]? = some (.cells #[.slice none 0 0, .slice none 0 0, .slice none 0 0, .bool false] 34 (0, 0)) := by
    have e := heap_alloc_new (w.alloc (.cells #[.int .i64 a.Do, .string (S2.B a.S), .slice a.A a.L.length a.c, .int .i64 a.N, .slice a.A' a.K.length a.c'] 36)) (.cells #[.slice none 0 0, .slice none 0 0, .slice none 0 0, .bool false] 34)
    rw [World.size_alloc] at e
    rw [hwa]; exact e
  have hxlt := hlg.lt
  have hsmall := hsl.small
  have HG := Lib.hid hgood
  have HFW := Lib.hid hfw
  have HIN := Lib.hid hin
  have HSL := Lib.hid hsl
  have HW := Lib.hid hwa
  have HAB := Lib.hid hwab
  have HAS := Lib.hid hwas
  have HACT := Lib.hid hact
  have HZERO := Lib.hid hzero
  have HXLT := Lib.hid hxlt
  have HR := Lib.hid hR
  clear hgood hlg hR hin hfw hsl hwa hwab hwas hact hzero hxlt hsmall
  go_enter Try.func12, Try.ntmps12
  go_wp2_with fail
  refine (All_new LG1.out (by have := HR.out; omega)).mono ?_
  rintro e w1 ⟨A1, n1, c1, rfl, hn, hc, hr, ho, hnew, h, hb⟩
  rw [← HW.out] at hr h hb hnew
  have OA := Lib.hid ho
  clear ho
  obtain ⟨b, hbn⟩ : ∃ b, b = w.heap.size := ⟨_, rfl⟩
  have hwas := HAS.out
  have hact := HACT.out
  have hzero := HZERO.out
  rw [← hbn] at hwas hact hzero h ⊢
  obtain ⟨Z0, hZ⟩ : ∃ Z, Z = upTo X wa.heap.size w1.heap.size := ⟨_, rfl⟩
  obtain ⟨w2, hw2⟩ : ∃ w2, w2 = w1.alloc (.cells #[.slice A1 n1 c1, .slice As ns cs, .slice none 0 0, .bool false] 34) := ⟨_, rfl⟩
  obtain ⟨hh, hhn⟩ : ∃ hh, hh = w1.heap.size := ⟨_, rfl⟩
  have hb1 := hb.size
  have hxl := HXLT.out
  have hw2b : Below w1.heap.size w1 w2 := by rw [hw2]; exact alloc_below _ _
  have hw2s : w2.heap.size = w1.heap.size + 1 := by rw [hw2]; simp
  have hfrall : Fr X w w2 := Fr.of_below ((HAB.out.trans (hb.mono (by omega))).trans (hw2b.mono (by omega))) hxl
  have AF := Lib.hid (show Af X Z0 w w2 b hh x p a R D #[.slice A1 n1 c1, .slice As ns cs, .slice none 0 0, .bool false] from ⟨fun k hk => by rw [hZ]; exact .inl hk,
    h.more hw2b fun k hk => by
      rw [hZ] at hk
      rcases hk with (hk | hk) | rfl | rfl | rfl
      · exact .inl (.inl (.inl hk))
      · exact .inl (.inr hk)
      · exact .inl (.inl (.inr (.inl rfl)))
      · exact .inl (.inl (.inr (.inr rfl)))
      · exact .inr ⟨by omega, by omega⟩,
    hfrall, (hw2b.block b (by omega)).trans ((hb.block b (by omega)).trans hact), (hw2b.block (b + 1) (by omega)).trans ((hb.block (b + 1) (by omega)).trans hzero), by rw [hw2, hhn]; exact heap_alloc_new _ _,
    fun e => by rw [hZ] at e; rcases e with e | e; have := hxl b e; omega; omega, fun e => by rw [hZ] at e; rcases e with e | e; have := hxl _ e; omega; omega, fun e => by rw [hZ] at e; rcases e with e | e; have := hxl _ e; omega; omega, by omega⟩)
  have hZX : ∀ k, X k → Z0 k := fun k hk => by rw [hZ]; exact .inl hk
  have hfa : Fr X wa w2 := Fr.of_below (hb.trans (hw2b.mono (by omega))) (fun k hk => by have := hxl k hk; omega)
  have hfx : Fr X w w2 := hfrall
  have SS := Lib.hid (HSL.out.fr hfx)
  have SL := Lib.hid (show Sl X w2 a.A a.L.length a.c a.L from ⟨HIN.out.rows.fr hfx, rfl, by have := HFW.out.rows; omega⟩)
  have RK := Lib.hid (HIN.out.row.fr hfx)
  have SA := Lib.hid (show Sl Z0 w2 A1 n1 c1 R from ⟨Rx.mono (Rx.fr hr (Fr.of_below hw2b fun k hk => hk.2)) (fun k hk => by rw [hZ]; exact .inr hk), hn, by have := HR.out; omega⟩)
  have HZA := Lib.hid (show ∀ g, (Value.slice A1 n1 c1).ownBlock = some g → Z0 g ∧ ¬ X g from fun g hg => ⟨by rw [hZ]; exact .inr ⟨hnew g hg, OA.out.lt hg⟩, fun e => by have h1 := hxl g e; have h2 := hnew g hg; omega⟩)
  have OA2 := Lib.hid (show Own w2 (.slice A1 n1 c1) R from OA.out.keep fun g hg => hw2b.block g (OA.out.lt hg))
  have HW2 := Lib.hid hw2
  have HHN := Lib.hid hhn
  clear hn hc hr h hb hwas hact hzero hZ hb1 hxl hw2b hw2s hfrall hZX hfa hfx hbn hw2 hhn LG1 HACT HZERO HAB HAS HW HXLT HSL
  have k0 := S2.cell_at AF.out.act 0
  have k1 := S2.cell_at AF.out.act 1
  have k2 := S2.cell_at AF.out.act 2
  have k3 := S2.cell_at AF.out.act 3
  have k4 := S2.cell_at AF.out.act 4
  rw [HW2.out] at k0 k1 k2 k3 k4
  go_wp2_with fail
  all_goals (rw [← HW2.out])
  all_goals (try rw [← HHN.out])
  · skip
    clear k0 k1 k2 k3 k4
    have hgd : ((lapp c4 D 2 R a.S).1 = 8 → Hope c4 (lapp c4 D 2 R a.S).2.2 2 (R ++ [a.S]) sf) ∧ ((lapp c4 D 2 R a.S).1 ≠ 8 → Good c4 (lapp c4 D 2 R a.S).2.2 2 (lapp c4 D 2 R a.S).2.1 sf) := lapp_good (f := 2) (by omega) HG.out a.S
    have hrl := lapp_len D 2 R a.S
    have K := Append_any _ x p 2 R D a.S w2 AF.out.lg (by have := HR.out; omega) HIN.out.slen
    obtain ⟨r, hrr⟩ : ∃ r, r = lapp c4 D 2 R a.S := ⟨_, rfl⟩
    rw [← hrr] at hgd hrl K
    obtain ⟨z, R2, D2⟩ := r
    dsimp only at hgd hrl K
    have HGD := Lib.hid hgd
    have HRL := Lib.hid (show R2.length ≤ 1001 by have := HR.out; omega)
    have HLEN := Lib.hid (show R2.length ≤ max (R.length + 1) 12 by omega)
    have KH := Lib.hid K
    clear hgd hrl K hrr
    refine KH.out.mono ?_
    rintro e w3 ⟨rfl, h, f⟩
    have hfx := f.weaken (fun k hk => .inl (AF.out.sub k hk))
    replace SS := Lib.hid (SS.out.fr hfx)
    replace SL := Lib.hid (SL.out.fr hfx)
    replace RK := Lib.hid (RK.out.fr hfx)
    have hfz := Af.z f
    replace SA := Lib.hid (SA.out.fr hfz)
    replace OA2 := Lib.hid (OA2.out.keep fun g hg => f.block g (.inl (HZA.out g hg).1))
    replace AF := Lib.hid (AF.out.call h f)
    clear h f hfx hfz KH
    by_cases hz : z = 8
    · subst hz
      have HRES := Lib.hid (HGD.out.1 rfl)
      clear HGD
      have k1 := S2.cell_at AF.out.act 1
      have q0 := S2.cell_at AF.out.hope 0
      have qf := fun i => S2.free_at AF.out.hope i
      have hal := alloc_below w3 (.cells #[.string (S2.B a.S)] 9)
      have HA3 := Lib.hid (AF.out.below hal)
      have HO3 := Lib.hid (show Own _ _ R from OA2.out.keep fun g hg => hal.block g (OA2.out.lt hg))
      have hfx := Fr.of_below hal (fun k hk => AF.out.lg.lt k (.inl (AF.out.sub k hk)))
      replace SS := Lib.hid (SS.out.fr hfx)
      replace SL := Lib.hid (SL.out.fr hfx)
      replace RK := Lib.hid (RK.out.fr hfx)
      clear hal hfx
      go_wp2_with (at_builtin; refine wpList_app (lo := R) (ln := [a.S]) rfl _ _ rfl HO3.out (row_one w3 a.S) rfl rfl rfl (by have := HR.out; simp; omega) ?_)
      intro v1 w4 ho hg hpl
      have h2 := HA3.out.grow hg HZA.out
      obtain ⟨Z1, hZ⟩ : ∃ Z, Z = upTo Z0 (w3.alloc (.cells #[.string (S2.B a.S)] 9)).heap.size w4.heap.size := ⟨_, rfl⟩
      rw [← hZ] at h2
      replace SS := Lib.hid (SS.out.fr h2.2)
      replace SL := Lib.hid (SL.out.fr h2.2)
      replace RK := Lib.hid (RK.out.fr h2.2)
      obtain ⟨Ab, nb, cb, rfl, hn, hc⟩ := ho.sl
      have hr := ho.rx (X := Z1) fun g hg2 => by
        rw [hZ]
        rcases hpl with h3 | h3
        · exact .inl (HZA.out g (h3.symm.trans hg2)).1
        · exact .inr ⟨by first | exact h3 g hg2 | (rw [World.size_alloc]; exact h3 g hg2), ho.lt hg2⟩
      have Sb := Lib.hid (show Sl Z1 w4 Ab nb cb (R ++ [a.S]) from ⟨hr, hn, by have := HR.out; simp; omega⟩)
      replace AF := Lib.hid h2.1
      clear h2 hZ ho hg hpl hn hc hr HA3 HO3 OA2 HZA q0 k1 qf
      have q0 := S2.cell_at AF.out.hope 0
      have qf := fun i => S2.free_at AF.out.hope i
      have hst := AF.out.store 0 (.slice Ab nb cb)
      replace Sb := Lib.hid (Sb.out.fr hst.2)
      have hsx := hst.2.weaken AF.out.sub
      replace SS := Lib.hid (SS.out.fr hsx)
      replace SL := Lib.hid (SL.out.fr hsx)
      replace RK := Lib.hid (RK.out.fr hsx)
      replace AF := Lib.hid (show Af X Z1 w _ b hh x p a _ _ #[.slice Ab nb cb, .slice As ns cs, .slice none 0 0, .bool false] from hst.1)
      clear hst hsx
      go_wp2_with fail
      refine AF.out.lg.isDown.mono ?_
      rintro e wz ⟨rfl, rfl⟩
      rw [show D2.down = true from HRES.out.down]
      have q0 := S2.cell_at AF.out.hope 0
      have q1 := S2.cell_at AF.out.hope 1
      have q2 := S2.cell_at AF.out.hope 2
      have q3 := S2.cell_at AF.out.hope 3
      have qf := fun i => S2.free_at AF.out.hope i
      go_wp2
      clear q0 q1 q2 q3 qf
      have HLD := Lib.hid (hope_cells AF.out.hope)
      have HZR := Lib.hid AF.out.zero
      refine wp_region_held_drew (S := fun _ => True) (by kernel_rfl) trivial (fun hHeld => ?_)
      refine wpAnyH_take (i := 0) (oi := ⟨_, _, _, _, _, _⟩) (v := ?_) rfl (by kernel_rfl) (by kernel_rfl) (by kernel_rfl) (fun _ _ _ h => h) (Or.inl ⟨by rfl, ?_⟩) (by assumption) ?_
      rotate_left
      · intro wz hSw
        try dsimp only at hSw
        go_simp
        try with_reducible rfl
      try simp only [Act.put, List.setIfInBounds_toArray, List.set_cons_zero, List.set_cons_succ]
      refine wpAnyH_take (i := 2) (oi := ⟨_, _, _, _, _, _⟩) (v := ?_) rfl (by kernel_rfl) (by kernel_rfl) (by kernel_rfl) (fun _ _ _ h => h) (Or.inl ⟨by rfl, ?_⟩) (by assumption) ?_
      rotate_left
      · intro wz hSw
        try dsimp only at hSw
        go_simp
        try with_reducible rfl
      try simp only [Act.put, List.setIfInBounds_toArray, List.set_cons_zero, List.set_cons_succ]
      refine wpAnyH_ready (rs := [1]) (by kernel_rfl) (by simp) ?_
      refine AllReadyH.cons (o := ⟨_, _, _, _, _, _⟩) rfl (fun K hK => ?_) AllReadyH.nil
      refine S9.Dk.step_load_part rfl 34 _ rfl ⟨hh, 0, none⟩ rfl [.slice Ab nb cb, .slice As ns cs, .slice none 0 0, .bool false] _ HLD.out Try.underlying34 rfl (by kernel_rfl) ?_
      refine hK.out _ _ trivial (fun hHeld => ?_)
      clear hK K
      try simp only [Act.put, List.setIfInBounds_toArray, List.set_cons_zero, List.set_cons_succ]
      refine wpAnyH_ready (rs := [3]) (by kernel_rfl) (by simp) ?_
      refine AllReadyH.cons (o := ⟨_, _, _, _, _, _⟩) rfl (fun K hK => ?_) AllReadyH.nil
      refine step_store_row rfl 34 _ _ rfl (b + 1) #[.slice Ab nb cb, .slice As ns cs, .slice none 0 0, .bool false] rfl rfl 34 _ HZR.out (by kernel_rfl) rfl (hope_one _ _ _ _ _ _ _ _ _ _) ?_
      refine hK.out _ _ trivial (fun hHeld => ?_)
      clear hK K
      try simp only [Act.put]
      refine wpAnyH_done (by kernel_rfl) ?_ _
      have FIN := Lib.hid (AF.out.last #[.slice Ab nb cb, .slice As ns cs, .slice none 0 0, .bool false])
      clear HLD HZR
      skip
      go_wp2
      refine bodyPost_ret (results_hope rfl rfl FIN.out.2.2.2) rfl ?_
      exact ⟨Z1, _, _, sf, (R ++ [a.S]), sf, [], _, _, _, _, _, _, _, _, _, _, _, _, _, rfl, ⟨AF.out.sub, FIN.out.2.1, FIN.out.1, HLEN.out, .inr HRES.out⟩, (SS.out.fr (FIN.out.2.2.1.weaken AF.out.sub)).mono AF.out.sub, Sb.out.fr FIN.out.2.2.1, (SS.out.fr (FIN.out.2.2.1.weaken AF.out.sub)).mono AF.out.sub, Sl.nil _ _⟩
    · have hz' : (z == 8) = false := by simpa using hz
      have HRES := Lib.hid (HGD.out.2 hz)
      clear HGD hz
      go_wp2_with fail
      refine (All_new AF.out.lg (by have := HRL.out; omega)).mono ?_
      rintro e w4 ⟨Ab, nb, cb, rfl, hn, hc, hr, ho, hnew, h, hb⟩
      have h2 := AF.out.let_in hb h
      have hfx := Fr.of_below hb (fun k hk => AF.out.lg.lt k (.inl (AF.out.sub k hk)))
      replace SS := Lib.hid (SS.out.fr hfx)
      replace SL := Lib.hid (SL.out.fr hfx)
      replace RK := Lib.hid (RK.out.fr hfx)
      have hfz := Fr.of_below hb (fun k hk => AF.out.lg.lt k (.inl hk))
      obtain ⟨Z1, hZ⟩ : ∃ Z, Z = upTo Z0 w3.heap.size w4.heap.size := ⟨_, rfl⟩
      rw [← hZ] at h2
      have hsub : ∀ k, Z0 k → Z1 k := fun k hk => by rw [hZ]; exact .inl hk
      replace SA := Lib.hid ((SA.out.fr hfz).mono hsub)
      have Sb := Lib.hid (show Sl Z1 w4 Ab nb cb R2 from ⟨hr.mono (fun k hk => by rw [hZ]; exact .inr hk), hn, by have := HRL.out; omega⟩)
      replace AF := Lib.hid h2
      clear h2 hn hc hr ho hnew h hb hfx hfz hZ hsub
      have q0 := S2.cell_at AF.out.hope 0
      have qf := fun i => S2.free_at AF.out.hope i
      have hst := AF.out.store 0 (.slice Ab nb cb)
      replace SA := Lib.hid (SA.out.fr hst.2)
      replace Sb := Lib.hid (Sb.out.fr hst.2)
      have hsx := hst.2.weaken AF.out.sub
      replace SS := Lib.hid (SS.out.fr hsx)
      replace SL := Lib.hid (SL.out.fr hsx)
      replace RK := Lib.hid (RK.out.fr hsx)
      replace AF := Lib.hid (show Af X Z1 w _ b hh x p a _ _ #[.slice Ab nb cb, .slice As ns cs, .slice none 0 0, .bool false] from hst.1)
      clear hst hsx
      go_wp2_with fail
      refine AF.out.lg.isDown.mono ?_
      rintro e wz ⟨rfl, rfl⟩
      rw [show D2.down = false from HRES.out.down]
      have q0 := S2.cell_at AF.out.hope 0
      have q1 := S2.cell_at AF.out.hope 1
      have q2 := S2.cell_at AF.out.hope 2
      have q3 := S2.cell_at AF.out.hope 3
      have qf := fun i => S2.free_at AF.out.hope i
      go_wp2
      have hst := AF.out.store 1 (.slice As ns cs)
      replace SA := Lib.hid (SA.out.fr hst.2)
      replace Sb := Lib.hid (Sb.out.fr hst.2)
      have hsx := hst.2.weaken AF.out.sub
      replace SS := Lib.hid (SS.out.fr hsx)
      replace SL := Lib.hid (SL.out.fr hsx)
      replace RK := Lib.hid (RK.out.fr hsx)
      replace AF := Lib.hid (show Af X Z1 w _ b hh x p a _ _ #[.slice Ab nb cb, .slice As ns cs, .slice none 0 0, .bool false] from hst.1)
      clear hst hsx
      clear q0 q1 q2 q3 qf
      have HLD := Lib.hid (hope_cells AF.out.hope)
      have HZR := Lib.hid AF.out.zero
      refine wp_region_held_drew (S := fun _ => True) (by kernel_rfl) trivial (fun hHeld => ?_)
      refine wpAnyH_take (i := 0) (oi := ⟨_, _, _, _, _, _⟩) (v := ?_) rfl (by kernel_rfl) (by kernel_rfl) (by kernel_rfl) (fun _ _ _ h => h) (Or.inl ⟨by rfl, ?_⟩) (by assumption) ?_
      rotate_left
      · intro wz hSw
        try dsimp only at hSw
        go_simp
        try with_reducible rfl
      try simp only [Act.put, List.setIfInBounds_toArray, List.set_cons_zero, List.set_cons_succ]
      refine wpAnyH_take (i := 2) (oi := ⟨_, _, _, _, _, _⟩) (v := ?_) rfl (by kernel_rfl) (by kernel_rfl) (by kernel_rfl) (fun _ _ _ h => h) (Or.inl ⟨by rfl, ?_⟩) (by assumption) ?_
      rotate_left
      · intro wz hSw
        try dsimp only at hSw
        go_simp
        try with_reducible rfl
      try simp only [Act.put, List.setIfInBounds_toArray, List.set_cons_zero, List.set_cons_succ]
      refine wpAnyH_ready (rs := [1]) (by kernel_rfl) (by simp) ?_
      refine AllReadyH.cons (o := ⟨_, _, _, _, _, _⟩) rfl (fun K hK => ?_) AllReadyH.nil
      refine S9.Dk.step_load_part rfl 34 _ rfl ⟨hh, 0, none⟩ rfl [.slice Ab nb cb, .slice As ns cs, .slice none 0 0, .bool false] _ HLD.out Try.underlying34 rfl (by kernel_rfl) ?_
      refine hK.out _ _ trivial (fun hHeld => ?_)
      clear hK K
      try simp only [Act.put, List.setIfInBounds_toArray, List.set_cons_zero, List.set_cons_succ]
      refine wpAnyH_ready (rs := [3]) (by kernel_rfl) (by simp) ?_
      refine AllReadyH.cons (o := ⟨_, _, _, _, _, _⟩) rfl (fun K hK => ?_) AllReadyH.nil
      refine step_store_row rfl 34 _ _ rfl (b + 1) #[.slice Ab nb cb, .slice As ns cs, .slice none 0 0, .bool false] rfl rfl 34 _ HZR.out (by kernel_rfl) rfl (hope_one _ _ _ _ _ _ _ _ _ _) ?_
      refine hK.out _ _ trivial (fun hHeld => ?_)
      clear hK K
      try simp only [Act.put]
      refine wpAnyH_done (by kernel_rfl) ?_ _
      have FIN := Lib.hid (AF.out.last #[.slice Ab nb cb, .slice As ns cs, .slice none 0 0, .bool false])
      clear HLD HZR
      skip
      go_wp2
      refine bodyPost_ret (results_hope rfl rfl FIN.out.2.2.2) rfl ?_
      exact ⟨Z1, _, _, sf, R2, sf, [], _, _, _, _, _, _, _, _, _, _, _, _, _, rfl, ⟨AF.out.sub, FIN.out.2.1, FIN.out.1, HLEN.out, .inl HRES.out⟩, (SS.out.fr (FIN.out.2.2.1.weaken AF.out.sub)).mono AF.out.sub, Sb.out.fr FIN.out.2.2.1, (SS.out.fr (FIN.out.2.2.1.weaken AF.out.sub)).mono AF.out.sub, Sl.nil _ _⟩
  · skip
    clear k0 k1 k2 k3 k4
    have hgd : ((lapp c4 D 2 R a.S).1 = 8 → Hope c4 (lapp c4 D 2 R a.S).2.2 2 (R ++ [a.S]) sf) ∧ ((lapp c4 D 2 R a.S).1 ≠ 8 → Good c4 (lapp c4 D 2 R a.S).2.2 2 (lapp c4 D 2 R a.S).2.1 sf) := lapp_good (f := 2) (by omega) HG.out a.S
    have hrl := lapp_len D 2 R a.S
    have K := Append_any _ x p 2 R D a.S w2 AF.out.lg (by have := HR.out; omega) HIN.out.slen
    obtain ⟨r, hrr⟩ : ∃ r, r = lapp c4 D 2 R a.S := ⟨_, rfl⟩
    rw [← hrr] at hgd hrl K
    obtain ⟨z, R2, D2⟩ := r
    dsimp only at hgd hrl K
    have HGD := Lib.hid hgd
    have HRL := Lib.hid (show R2.length ≤ 1001 by have := HR.out; omega)
    have HLEN := Lib.hid (show R2.length ≤ max (R.length + 1) 12 by omega)
    have KH := Lib.hid K
    clear hgd hrl K hrr
    refine KH.out.mono ?_
    rintro e w3 ⟨rfl, h, f⟩
    have hfx := f.weaken (fun k hk => .inl (AF.out.sub k hk))
    replace SS := Lib.hid (SS.out.fr hfx)
    replace SL := Lib.hid (SL.out.fr hfx)
    replace RK := Lib.hid (RK.out.fr hfx)
    have hfz := Af.z f
    replace SA := Lib.hid (SA.out.fr hfz)
    replace OA2 := Lib.hid (OA2.out.keep fun g hg => f.block g (.inl (HZA.out g hg).1))
    replace AF := Lib.hid (AF.out.call h f)
    clear h f hfx hfz KH
    by_cases hz : z = 8
    · subst hz
      have HRES := Lib.hid (HGD.out.1 rfl)
      clear HGD
      have k1 := S2.cell_at AF.out.act 1
      have q0 := S2.cell_at AF.out.hope 0
      have qf := fun i => S2.free_at AF.out.hope i
      have hal := alloc_below w3 (.cells #[.string (S2.B a.S)] 9)
      have HA3 := Lib.hid (AF.out.below hal)
      have HO3 := Lib.hid (show Own _ _ R from OA2.out.keep fun g hg => hal.block g (OA2.out.lt hg))
      have hfx := Fr.of_below hal (fun k hk => AF.out.lg.lt k (.inl (AF.out.sub k hk)))
      replace SS := Lib.hid (SS.out.fr hfx)
      replace SL := Lib.hid (SL.out.fr hfx)
      replace RK := Lib.hid (RK.out.fr hfx)
      clear hal hfx
      go_wp2_with (at_builtin; refine wpList_app (lo := R) (ln := [a.S]) rfl _ _ rfl HO3.out (row_one w3 a.S) rfl rfl rfl (by have := HR.out; simp; omega) ?_)
      intro v1 w4 ho hg hpl
      have h2 := HA3.out.grow hg HZA.out
      obtain ⟨Z1, hZ⟩ : ∃ Z, Z = upTo Z0 (w3.alloc (.cells #[.string (S2.B a.S)] 9)).heap.size w4.heap.size := ⟨_, rfl⟩
      rw [← hZ] at h2
      replace SS := Lib.hid (SS.out.fr h2.2)
      replace SL := Lib.hid (SL.out.fr h2.2)
      replace RK := Lib.hid (RK.out.fr h2.2)
      obtain ⟨Ab, nb, cb, rfl, hn, hc⟩ := ho.sl
      have hr := ho.rx (X := Z1) fun g hg2 => by
        rw [hZ]
        rcases hpl with h3 | h3
        · exact .inl (HZA.out g (h3.symm.trans hg2)).1
        · exact .inr ⟨by first | exact h3 g hg2 | (rw [World.size_alloc]; exact h3 g hg2), ho.lt hg2⟩
      have Sb := Lib.hid (show Sl Z1 w4 Ab nb cb (R ++ [a.S]) from ⟨hr, hn, by have := HR.out; simp; omega⟩)
      replace AF := Lib.hid h2.1
      clear h2 hZ ho hg hpl hn hc hr HA3 HO3 OA2 HZA q0 k1 qf
      have q0 := S2.cell_at AF.out.hope 0
      have qf := fun i => S2.free_at AF.out.hope i
      have hst := AF.out.store 0 (.slice Ab nb cb)
      replace Sb := Lib.hid (Sb.out.fr hst.2)
      have hsx := hst.2.weaken AF.out.sub
      replace SS := Lib.hid (SS.out.fr hsx)
      replace SL := Lib.hid (SL.out.fr hsx)
      replace RK := Lib.hid (RK.out.fr hsx)
      replace AF := Lib.hid (show Af X Z1 w _ b hh x p a _ _ #[.slice Ab nb cb, .slice As ns cs, .slice none 0 0, .bool false] from hst.1)
      clear hst hsx
      go_wp2_with fail
      refine AF.out.lg.isDown.mono ?_
      rintro e wz ⟨rfl, rfl⟩
      rw [show D2.down = true from HRES.out.down]
      have q0 := S2.cell_at AF.out.hope 0
      have q1 := S2.cell_at AF.out.hope 1
      have q2 := S2.cell_at AF.out.hope 2
      have q3 := S2.cell_at AF.out.hope 3
      have qf := fun i => S2.free_at AF.out.hope i
      go_wp2
      clear q0 q1 q2 q3 qf
      have HLD := Lib.hid (hope_cells AF.out.hope)
      have HZR := Lib.hid AF.out.zero
      refine wp_region_held_drew (S := fun _ => True) (by kernel_rfl) trivial (fun hHeld => ?_)
      refine wpAnyH_take (i := 0) (oi := ⟨_, _, _, _, _, _⟩) (v := ?_) rfl (by kernel_rfl) (by kernel_rfl) (by kernel_rfl) (fun _ _ _ h => h) (Or.inl ⟨by rfl, ?_⟩) (by assumption) ?_
      rotate_left
      · intro wz hSw
        try dsimp only at hSw
        go_simp
        try with_reducible rfl
      try simp only [Act.put, List.setIfInBounds_toArray, List.set_cons_zero, List.set_cons_succ]
      refine wpAnyH_take (i := 2) (oi := ⟨_, _, _, _, _, _⟩) (v := ?_) rfl (by kernel_rfl) (by kernel_rfl) (by kernel_rfl) (fun _ _ _ h => h) (Or.inl ⟨by rfl, ?_⟩) (by assumption) ?_
      rotate_left
      · intro wz hSw
        try dsimp only at hSw
        go_simp
        try with_reducible rfl
      try simp only [Act.put, List.setIfInBounds_toArray, List.set_cons_zero, List.set_cons_succ]
      refine wpAnyH_ready (rs := [1]) (by kernel_rfl) (by simp) ?_
      refine AllReadyH.cons (o := ⟨_, _, _, _, _, _⟩) rfl (fun K hK => ?_) AllReadyH.nil
      refine S9.Dk.step_load_part rfl 34 _ rfl ⟨hh, 0, none⟩ rfl [.slice Ab nb cb, .slice As ns cs, .slice none 0 0, .bool false] _ HLD.out Try.underlying34 rfl (by kernel_rfl) ?_
      refine hK.out _ _ trivial (fun hHeld => ?_)
      clear hK K
      try simp only [Act.put, List.setIfInBounds_toArray, List.set_cons_zero, List.set_cons_succ]
      refine wpAnyH_ready (rs := [3]) (by kernel_rfl) (by simp) ?_
      refine AllReadyH.cons (o := ⟨_, _, _, _, _, _⟩) rfl (fun K hK => ?_) AllReadyH.nil
      refine step_store_row rfl 34 _ _ rfl (b + 1) #[.slice Ab nb cb, .slice As ns cs, .slice none 0 0, .bool false] rfl rfl 34 _ HZR.out (by kernel_rfl) rfl (hope_one _ _ _ _ _ _ _ _ _ _) ?_
      refine hK.out _ _ trivial (fun hHeld => ?_)
      clear hK K
      try simp only [Act.put]
      refine wpAnyH_done (by kernel_rfl) ?_ _
      have FIN := Lib.hid (AF.out.last #[.slice Ab nb cb, .slice As ns cs, .slice none 0 0, .bool false])
      clear HLD HZR
      skip
      go_wp2
      refine bodyPost_ret (results_hope rfl rfl FIN.out.2.2.2) rfl ?_
      exact ⟨Z1, _, _, sf, (R ++ [a.S]), sf, [], _, _, _, _, _, _, _, _, _, _, _, _, _, rfl, ⟨AF.out.sub, FIN.out.2.1, FIN.out.1, HLEN.out, .inr HRES.out⟩, (SS.out.fr (FIN.out.2.2.1.weaken AF.out.sub)).mono AF.out.sub, Sb.out.fr FIN.out.2.2.1, (SS.out.fr (FIN.out.2.2.1.weaken AF.out.sub)).mono AF.out.sub, Sl.nil _ _⟩
    · have hz' : (z == 8) = false := by simpa using hz
      have HRES := Lib.hid (HGD.out.2 hz)
      clear HGD hz
      go_wp2_with fail
      refine (All_new AF.out.lg (by have := HRL.out; omega)).mono ?_
      rintro e w4 ⟨Ab, nb, cb, rfl, hn, hc, hr, ho, hnew, h, hb⟩
      have h2 := AF.out.let_in hb h
      have hfx := Fr.of_below hb (fun k hk => AF.out.lg.lt k (.inl (AF.out.sub k hk)))
      replace SS := Lib.hid (SS.out.fr hfx)
      replace SL := Lib.hid (SL.out.fr hfx)
      replace RK := Lib.hid (RK.out.fr hfx)
      have hfz := Fr.of_below hb (fun k hk => AF.out.lg.lt k (.inl hk))
      obtain ⟨Z1, hZ⟩ : ∃ Z, Z = upTo Z0 w3.heap.size w4.heap.size := ⟨_, rfl⟩
      rw [← hZ] at h2
      have hsub : ∀ k, Z0 k → Z1 k := fun k hk => by rw [hZ]; exact .inl hk
      replace SA := Lib.hid ((SA.out.fr hfz).mono hsub)
      have Sb := Lib.hid (show Sl Z1 w4 Ab nb cb R2 from ⟨hr.mono (fun k hk => by rw [hZ]; exact .inr hk), hn, by have := HRL.out; omega⟩)
      replace AF := Lib.hid h2
      clear h2 hn hc hr ho hnew h hb hfx hfz hZ hsub
      have q0 := S2.cell_at AF.out.hope 0
      have qf := fun i => S2.free_at AF.out.hope i
      have hst := AF.out.store 0 (.slice Ab nb cb)
      replace SA := Lib.hid (SA.out.fr hst.2)
      replace Sb := Lib.hid (Sb.out.fr hst.2)
      have hsx := hst.2.weaken AF.out.sub
      replace SS := Lib.hid (SS.out.fr hsx)
      replace SL := Lib.hid (SL.out.fr hsx)
      replace RK := Lib.hid (RK.out.fr hsx)
      replace AF := Lib.hid (show Af X Z1 w _ b hh x p a _ _ #[.slice Ab nb cb, .slice As ns cs, .slice none 0 0, .bool false] from hst.1)
      clear hst hsx
      go_wp2_with fail
      refine AF.out.lg.isDown.mono ?_
      rintro e wz ⟨rfl, rfl⟩
      rw [show D2.down = false from HRES.out.down]
      have q0 := S2.cell_at AF.out.hope 0
      have q1 := S2.cell_at AF.out.hope 1
      have q2 := S2.cell_at AF.out.hope 2
      have q3 := S2.cell_at AF.out.hope 3
      have qf := fun i => S2.free_at AF.out.hope i
      go_wp2
      have hst := AF.out.store 1 (.slice As ns cs)
      replace SA := Lib.hid (SA.out.fr hst.2)
      replace Sb := Lib.hid (Sb.out.fr hst.2)
      have hsx := hst.2.weaken AF.out.sub
      replace SS := Lib.hid (SS.out.fr hsx)
      replace SL := Lib.hid (SL.out.fr hsx)
      replace RK := Lib.hid (RK.out.fr hsx)
      replace AF := Lib.hid (show Af X Z1 w _ b hh x p a _ _ #[.slice Ab nb cb, .slice As ns cs, .slice none 0 0, .bool false] from hst.1)
      clear hst hsx
      clear q0 q1 q2 q3 qf
      have HLD := Lib.hid (hope_cells AF.out.hope)
      have HZR := Lib.hid AF.out.zero
      refine wp_region_held_drew (S := fun _ => True) (by kernel_rfl) trivial (fun hHeld => ?_)
      refine wpAnyH_take (i := 0) (oi := ⟨_, _, _, _, _, _⟩) (v := ?_) rfl (by kernel_rfl) (by kernel_rfl) (by kernel_rfl) (fun _ _ _ h => h) (Or.inl ⟨by rfl, ?_⟩) (by assumption) ?_
      rotate_left
      · intro wz hSw
        try dsimp only at hSw
        go_simp
        try with_reducible rfl
      try simp only [Act.put, List.setIfInBounds_toArray, List.set_cons_zero, List.set_cons_succ]
      refine wpAnyH_take (i := 2) (oi := ⟨_, _, _, _, _, _⟩) (v := ?_) rfl (by kernel_rfl) (by kernel_rfl) (by kernel_rfl) (fun _ _ _ h => h) (Or.inl ⟨by rfl, ?_⟩) (by assumption) ?_
      rotate_left
      · intro wz hSw
        try dsimp only at hSw
        go_simp
        try with_reducible rfl
      try simp only [Act.put, List.setIfInBounds_toArray, List.set_cons_zero, List.set_cons_succ]
      refine wpAnyH_ready (rs := [1]) (by kernel_rfl) (by simp) ?_
      refine AllReadyH.cons (o := ⟨_, _, _, _, _, _⟩) rfl (fun K hK => ?_) AllReadyH.nil
      refine S9.Dk.step_load_part rfl 34 _ rfl ⟨hh, 0, none⟩ rfl [.slice Ab nb cb, .slice As ns cs, .slice none 0 0, .bool false] _ HLD.out Try.underlying34 rfl (by kernel_rfl) ?_
      refine hK.out _ _ trivial (fun hHeld => ?_)
      clear hK K
      try simp only [Act.put, List.setIfInBounds_toArray, List.set_cons_zero, List.set_cons_succ]
      refine wpAnyH_ready (rs := [3]) (by kernel_rfl) (by simp) ?_
      refine AllReadyH.cons (o := ⟨_, _, _, _, _, _⟩) rfl (fun K hK => ?_) AllReadyH.nil
      refine step_store_row rfl 34 _ _ rfl (b + 1) #[.slice Ab nb cb, .slice As ns cs, .slice none 0 0, .bool false] rfl rfl 34 _ HZR.out (by kernel_rfl) rfl (hope_one _ _ _ _ _ _ _ _ _ _) ?_
      refine hK.out _ _ trivial (fun hHeld => ?_)
      clear hK K
      try simp only [Act.put]
      refine wpAnyH_done (by kernel_rfl) ?_ _
      have FIN := Lib.hid (AF.out.last #[.slice Ab nb cb, .slice As ns cs, .slice none 0 0, .bool false])
      clear HLD HZR
      skip
      go_wp2
      refine bodyPost_ret (results_hope rfl rfl FIN.out.2.2.2) rfl ?_
      exact ⟨Z1, _, _, sf, R2, sf, [], _, _, _, _, _, _, _, _, _, _, _, _, _, rfl, ⟨AF.out.sub, FIN.out.2.1, FIN.out.1, HLEN.out, .inl HRES.out⟩, (SS.out.fr (FIN.out.2.2.1.weaken AF.out.sub)).mono AF.out.sub, Sb.out.fr FIN.out.2.2.1, (SS.out.fr (FIN.out.2.2.1.weaken AF.out.sub)).mono AF.out.sub, Sl.nil _ _⟩
  · skip
    clear k0 k1 k2 k3 k4
    have hgd : ((lapp c4 D 2 R a.S).1 = 8 → Hope c4 (lapp c4 D 2 R a.S).2.2 2 (R ++ [a.S]) sf) ∧ ((lapp c4 D 2 R a.S).1 ≠ 8 → Good c4 (lapp c4 D 2 R a.S).2.2 2 (lapp c4 D 2 R a.S).2.1 sf) := lapp_good (f := 2) (by omega) HG.out a.S
    have hrl := lapp_len D 2 R a.S
    have K := Append_any _ x p 2 R D a.S w2 AF.out.lg (by have := HR.out; omega) HIN.out.slen
    obtain ⟨r, hrr⟩ : ∃ r, r = lapp c4 D 2 R a.S := ⟨_, rfl⟩
    rw [← hrr] at hgd hrl K
    obtain ⟨z, R2, D2⟩ := r
    dsimp only at hgd hrl K
    have HGD := Lib.hid hgd
    have HRL := Lib.hid (show R2.length ≤ 1001 by have := HR.out; omega)
    have HLEN := Lib.hid (show R2.length ≤ max (R.length + 1) 12 by omega)
    have KH := Lib.hid K
    clear hgd hrl K hrr
    refine KH.out.mono ?_
    rintro e w3 ⟨rfl, h, f⟩
    have hfx := f.weaken (fun k hk => .inl (AF.out.sub k hk))
    replace SS := Lib.hid (SS.out.fr hfx)
    replace SL := Lib.hid (SL.out.fr hfx)
    replace RK := Lib.hid (RK.out.fr hfx)
    have hfz := Af.z f
    replace SA := Lib.hid (SA.out.fr hfz)
    replace OA2 := Lib.hid (OA2.out.keep fun g hg => f.block g (.inl (HZA.out g hg).1))
    replace AF := Lib.hid (AF.out.call h f)
    clear h f hfx hfz KH
    by_cases hz : z = 8
    · subst hz
      have HRES := Lib.hid (HGD.out.1 rfl)
      clear HGD
      have k1 := S2.cell_at AF.out.act 1
      have q0 := S2.cell_at AF.out.hope 0
      have qf := fun i => S2.free_at AF.out.hope i
      have hal := alloc_below w3 (.cells #[.string (S2.B a.S)] 9)
      have HA3 := Lib.hid (AF.out.below hal)
      have HO3 := Lib.hid (show Own _ _ R from OA2.out.keep fun g hg => hal.block g (OA2.out.lt hg))
      have hfx := Fr.of_below hal (fun k hk => AF.out.lg.lt k (.inl (AF.out.sub k hk)))
      replace SS := Lib.hid (SS.out.fr hfx)
      replace SL := Lib.hid (SL.out.fr hfx)
      replace RK := Lib.hid (RK.out.fr hfx)
      clear hal hfx
      go_wp2_with (at_builtin; refine wpList_app (lo := R) (ln := [a.S]) rfl _ _ rfl HO3.out (row_one w3 a.S) rfl rfl rfl (by have := HR.out; simp; omega) ?_)
      intro v1 w4 ho hg hpl
      have h2 := HA3.out.grow hg HZA.out
      obtain ⟨Z1, hZ⟩ : ∃ Z, Z = upTo Z0 (w3.alloc (.cells #[.string (S2.B a.S)] 9)).heap.size w4.heap.size := ⟨_, rfl⟩
      rw [← hZ] at h2
      replace SS := Lib.hid (SS.out.fr h2.2)
      replace SL := Lib.hid (SL.out.fr h2.2)
      replace RK := Lib.hid (RK.out.fr h2.2)
      obtain ⟨Ab, nb, cb, rfl, hn, hc⟩ := ho.sl
      have hr := ho.rx (X := Z1) fun g hg2 => by
        rw [hZ]
        rcases hpl with h3 | h3
        · exact .inl (HZA.out g (h3.symm.trans hg2)).1
        · exact .inr ⟨by first | exact h3 g hg2 | (rw [World.size_alloc]; exact h3 g hg2), ho.lt hg2⟩
      have Sb := Lib.hid (show Sl Z1 w4 Ab nb cb (R ++ [a.S]) from ⟨hr, hn, by have := HR.out; simp; omega⟩)
      replace AF := Lib.hid h2.1
      clear h2 hZ ho hg hpl hn hc hr HA3 HO3 OA2 HZA q0 k1 qf
      have q0 := S2.cell_at AF.out.hope 0
      have qf := fun i => S2.free_at AF.out.hope i
      have hst := AF.out.store 0 (.slice Ab nb cb)
      replace Sb := Lib.hid (Sb.out.fr hst.2)
      have hsx := hst.2.weaken AF.out.sub
      replace SS := Lib.hid (SS.out.fr hsx)
      replace SL := Lib.hid (SL.out.fr hsx)
      replace RK := Lib.hid (RK.out.fr hsx)
      replace AF := Lib.hid (show Af X Z1 w _ b hh x p a _ _ #[.slice Ab nb cb, .slice As ns cs, .slice none 0 0, .bool false] from hst.1)
      clear hst hsx
      go_wp2_with fail
      refine AF.out.lg.isDown.mono ?_
      rintro e wz ⟨rfl, rfl⟩
      rw [show D2.down = true from HRES.out.down]
      have q0 := S2.cell_at AF.out.hope 0
      have q1 := S2.cell_at AF.out.hope 1
      have q2 := S2.cell_at AF.out.hope 2
      have q3 := S2.cell_at AF.out.hope 3
      have qf := fun i => S2.free_at AF.out.hope i
      go_wp2
      clear q0 q1 q2 q3 qf
      have HLD := Lib.hid (hope_cells AF.out.hope)
      have HZR := Lib.hid AF.out.zero
      refine wp_region_held_drew (S := fun _ => True) (by kernel_rfl) trivial (fun hHeld => ?_)
      refine wpAnyH_take (i := 0) (oi := ⟨_, _, _, _, _, _⟩) (v := ?_) rfl (by kernel_rfl) (by kernel_rfl) (by kernel_rfl) (fun _ _ _ h => h) (Or.inl ⟨by rfl, ?_⟩) (by assumption) ?_
      rotate_left
      · intro wz hSw
        try dsimp only at hSw
        go_simp
        try with_reducible rfl
      try simp only [Act.put, List.setIfInBounds_toArray, List.set_cons_zero, List.set_cons_succ]
      refine wpAnyH_take (i := 2) (oi := ⟨_, _, _, _, _, _⟩) (v := ?_) rfl (by kernel_rfl) (by kernel_rfl) (by kernel_rfl) (fun _ _ _ h => h) (Or.inl ⟨by rfl, ?_⟩) (by assumption) ?_
      rotate_left
      · intro wz hSw
        try dsimp only at hSw
        go_simp
        try with_reducible rfl
      try simp only [Act.put, List.setIfInBounds_toArray, List.set_cons_zero, List.set_cons_succ]
      refine wpAnyH_ready (rs := [1]) (by kernel_rfl) (by simp) ?_
      refine AllReadyH.cons (o := ⟨_, _, _, _, _, _⟩) rfl (fun K hK => ?_) AllReadyH.nil
      refine S9.Dk.step_load_part rfl 34 _ rfl ⟨hh, 0, none⟩ rfl [.slice Ab nb cb, .slice As ns cs, .slice none 0 0, .bool false] _ HLD.out Try.underlying34 rfl (by kernel_rfl) ?_
      refine hK.out _ _ trivial (fun hHeld => ?_)
      clear hK K
      try simp only [Act.put, List.setIfInBounds_toArray, List.set_cons_zero, List.set_cons_succ]
      refine wpAnyH_ready (rs := [3]) (by kernel_rfl) (by simp) ?_
      refine AllReadyH.cons (o := ⟨_, _, _, _, _, _⟩) rfl (fun K hK => ?_) AllReadyH.nil
      refine step_store_row rfl 34 _ _ rfl (b + 1) #[.slice Ab nb cb, .slice As ns cs, .slice none 0 0, .bool false] rfl rfl 34 _ HZR.out (by kernel_rfl) rfl (hope_one _ _ _ _ _ _ _ _ _ _) ?_
      refine hK.out _ _ trivial (fun hHeld => ?_)
      clear hK K
      try simp only [Act.put]
      refine wpAnyH_done (by kernel_rfl) ?_ _
      have FIN := Lib.hid (AF.out.last #[.slice Ab nb cb, .slice As ns cs, .slice none 0 0, .bool false])
      clear HLD HZR
      skip
      go_wp2
      refine bodyPost_ret (results_hope rfl rfl FIN.out.2.2.2) rfl ?_
      exact ⟨Z1, _, _, sf, (R ++ [a.S]), sf, [], _, _, _, _, _, _, _, _, _, _, _, _, _, rfl, ⟨AF.out.sub, FIN.out.2.1, FIN.out.1, HLEN.out, .inr HRES.out⟩, (SS.out.fr (FIN.out.2.2.1.weaken AF.out.sub)).mono AF.out.sub, Sb.out.fr FIN.out.2.2.1, (SS.out.fr (FIN.out.2.2.1.weaken AF.out.sub)).mono AF.out.sub, Sl.nil _ _⟩
    · have hz' : (z == 8) = false := by simpa using hz
      have HRES := Lib.hid (HGD.out.2 hz)
      clear HGD hz
      go_wp2_with fail
      refine (All_new AF.out.lg (by have := HRL.out; omega)).mono ?_
      rintro e w4 ⟨Ab, nb, cb, rfl, hn, hc, hr, ho, hnew, h, hb⟩
      have h2 := AF.out.let_in hb h
      have hfx := Fr.of_below hb (fun k hk => AF.out.lg.lt k (.inl (AF.out.sub k hk)))
      replace SS := Lib.hid (SS.out.fr hfx)
      replace SL := Lib.hid (SL.out.fr hfx)
      replace RK := Lib.hid (RK.out.fr hfx)
      have hfz := Fr.of_below hb (fun k hk => AF.out.lg.lt k (.inl hk))
      obtain ⟨Z1, hZ⟩ : ∃ Z, Z = upTo Z0 w3.heap.size w4.heap.size := ⟨_, rfl⟩
      rw [← hZ] at h2
      have hsub : ∀ k, Z0 k → Z1 k := fun k hk => by rw [hZ]; exact .inl hk
      replace SA := Lib.hid ((SA.out.fr hfz).mono hsub)
      have Sb := Lib.hid (show Sl Z1 w4 Ab nb cb R2 from ⟨hr.mono (fun k hk => by rw [hZ]; exact .inr hk), hn, by have := HRL.out; omega⟩)
      replace AF := Lib.hid h2
      clear h2 hn hc hr ho hnew h hb hfx hfz hZ hsub
      have q0 := S2.cell_at AF.out.hope 0
      have qf := fun i => S2.free_at AF.out.hope i
      have hst := AF.out.store 0 (.slice Ab nb cb)
      replace SA := Lib.hid (SA.out.fr hst.2)
      replace Sb := Lib.hid (Sb.out.fr hst.2)
      have hsx := hst.2.weaken AF.out.sub
      replace SS := Lib.hid (SS.out.fr hsx)
      replace SL := Lib.hid (SL.out.fr hsx)
      replace RK := Lib.hid (RK.out.fr hsx)
      replace AF := Lib.hid (show Af X Z1 w _ b hh x p a _ _ #[.slice Ab nb cb, .slice As ns cs, .slice none 0 0, .bool false] from hst.1)
      clear hst hsx
      go_wp2_with fail
      refine AF.out.lg.isDown.mono ?_
      rintro e wz ⟨rfl, rfl⟩
      rw [show D2.down = false from HRES.out.down]
      have q0 := S2.cell_at AF.out.hope 0
      have q1 := S2.cell_at AF.out.hope 1
      have q2 := S2.cell_at AF.out.hope 2
      have q3 := S2.cell_at AF.out.hope 3
      have qf := fun i => S2.free_at AF.out.hope i
      go_wp2
      have hst := AF.out.store 1 (.slice As ns cs)
      replace SA := Lib.hid (SA.out.fr hst.2)
      replace Sb := Lib.hid (Sb.out.fr hst.2)
      have hsx := hst.2.weaken AF.out.sub
      replace SS := Lib.hid (SS.out.fr hsx)
      replace SL := Lib.hid (SL.out.fr hsx)
      replace RK := Lib.hid (RK.out.fr hsx)
      replace AF := Lib.hid (show Af X Z1 w _ b hh x p a _ _ #[.slice Ab nb cb, .slice As ns cs, .slice none 0 0, .bool false] from hst.1)
      clear hst hsx
      clear q0 q1 q2 q3 qf
      have HLD := Lib.hid (hope_cells AF.out.hope)
      have HZR := Lib.hid AF.out.zero
      refine wp_region_held_drew (S := fun _ => True) (by kernel_rfl) trivial (fun hHeld => ?_)
      refine wpAnyH_take (i := 0) (oi := ⟨_, _, _, _, _, _⟩) (v := ?_) rfl (by kernel_rfl) (by kernel_rfl) (by kernel_rfl) (fun _ _ _ h => h) (Or.inl ⟨by rfl, ?_⟩) (by assumption) ?_
      rotate_left
      · intro wz hSw
        try dsimp only at hSw
        go_simp
        try with_reducible rfl
      try simp only [Act.put, List.setIfInBounds_toArray, List.set_cons_zero, List.set_cons_succ]
      refine wpAnyH_take (i := 2) (oi := ⟨_, _, _, _, _, _⟩) (v := ?_) rfl (by kernel_rfl) (by kernel_rfl) (by kernel_rfl) (fun _ _ _ h => h) (Or.inl ⟨by rfl, ?_⟩) (by assumption) ?_
      rotate_left
      · intro wz hSw
        try dsimp only at hSw
        go_simp
        try with_reducible rfl
      try simp only [Act.put, List.setIfInBounds_toArray, List.set_cons_zero, List.set_cons_succ]
      refine wpAnyH_ready (rs := [1]) (by kernel_rfl) (by simp) ?_
      refine AllReadyH.cons (o := ⟨_, _, _, _, _, _⟩) rfl (fun K hK => ?_) AllReadyH.nil
      refine S9.Dk.step_load_part rfl 34 _ rfl ⟨hh, 0, none⟩ rfl [.slice Ab nb cb, .slice As ns cs, .slice none 0 0, .bool false] _ HLD.out Try.underlying34 rfl (by kernel_rfl) ?_
      refine hK.out _ _ trivial (fun hHeld => ?_)
      clear hK K
      try simp only [Act.put, List.setIfInBounds_toArray, List.set_cons_zero, List.set_cons_succ]
      refine wpAnyH_ready (rs := [3]) (by kernel_rfl) (by simp) ?_
      refine AllReadyH.cons (o := ⟨_, _, _, _, _, _⟩) rfl (fun K hK => ?_) AllReadyH.nil
      refine step_store_row rfl 34 _ _ rfl (b + 1) #[.slice Ab nb cb, .slice As ns cs, .slice none 0 0, .bool false] rfl rfl 34 _ HZR.out (by kernel_rfl) rfl (hope_one _ _ _ _ _ _ _ _ _ _) ?_
      refine hK.out _ _ trivial (fun hHeld => ?_)
      clear hK K
      try simp only [Act.put]
      refine wpAnyH_done (by kernel_rfl) ?_ _
      have FIN := Lib.hid (AF.out.last #[.slice Ab nb cb, .slice As ns cs, .slice none 0 0, .bool false])
      clear HLD HZR
      skip
      go_wp2
      refine bodyPost_ret (results_hope rfl rfl FIN.out.2.2.2) rfl ?_
      exact ⟨Z1, _, _, sf, R2, sf, [], _, _, _, _, _, _, _, _, _, _, _, _, _, rfl, ⟨AF.out.sub, FIN.out.2.1, FIN.out.1, HLEN.out, .inl HRES.out⟩, (SS.out.fr (FIN.out.2.2.1.weaken AF.out.sub)).mono AF.out.sub, Sb.out.fr FIN.out.2.2.1, (SS.out.fr (FIN.out.2.2.1.weaken AF.out.sub)).mono AF.out.sub, Sl.nil _ _⟩
  · skip
    clear k0 k1 k2 k3 k4
    have hgd : ((D.flush 2).1 = 8 → Hope c4 (D.flush 2).2 2 R sf) ∧ ((D.flush 2).1 = 0 → Good c4 (D.flush 2).2 2 R R) ∧ ((D.flush 2).1 ≠ 8 → Good c4 (D.flush 2).2 2 R sf) := lflush_good (f := 2) (by omega) HG.out
    have K := Flush_any _ x p 2 R D w2 AF.out.lg
    obtain ⟨r, hrr⟩ : ∃ r, r = D.flush 2 := ⟨_, rfl⟩
    rw [← hrr] at hgd K
    obtain ⟨z, D2⟩ := r
    dsimp only at hgd K
    have HGD := Lib.hid hgd
    have HRL := Lib.hid (show R.length ≤ 1001 by have := HR.out; omega)
    have HLEN := Lib.hid (show R.length ≤ max (R.length + 1) 12 by omega)
    have KH := Lib.hid K
    clear hgd K hrr
    refine KH.out.mono ?_
    rintro e w3 ⟨rfl, h, f⟩
    have hfx := f.weaken (fun k hk => .inl (AF.out.sub k hk))
    replace SS := Lib.hid (SS.out.fr hfx)
    replace SL := Lib.hid (SL.out.fr hfx)
    replace RK := Lib.hid (RK.out.fr hfx)
    have hfz := Af.z f
    replace SA := Lib.hid (SA.out.fr hfz)
    replace AF := Lib.hid (AF.out.call h f)
    clear h f hfx hfz KH OA2 HZA
    by_cases hz : z = 0
    · subst hz
      have HRES := Lib.hid (HGD.out.2.1 rfl)
      clear HGD
      go_wp2_with fail
      refine (All_new AF.out.lg (by have := HRL.out; omega)).mono ?_
      rintro e w4 ⟨Ab, nb, cb, rfl, hn, hc, hr, ho, hnew, h, hb⟩
      have h2 := AF.out.let_in hb h
      have hfx := Fr.of_below hb (fun k hk => AF.out.lg.lt k (.inl (AF.out.sub k hk)))
      replace SS := Lib.hid (SS.out.fr hfx)
      replace SL := Lib.hid (SL.out.fr hfx)
      replace RK := Lib.hid (RK.out.fr hfx)
      have hfz := Fr.of_below hb (fun k hk => AF.out.lg.lt k (.inl hk))
      obtain ⟨Z1, hZ⟩ : ∃ Z, Z = upTo Z0 w3.heap.size w4.heap.size := ⟨_, rfl⟩
      rw [← hZ] at h2
      have hsub : ∀ k, Z0 k → Z1 k := fun k hk => by rw [hZ]; exact .inl hk
      replace SA := Lib.hid ((SA.out.fr hfz).mono hsub)
      have Sb := Lib.hid (show Sl Z1 w4 Ab nb cb R from ⟨hr.mono (fun k hk => by rw [hZ]; exact .inr hk), hn, by have := HRL.out; omega⟩)
      replace AF := Lib.hid h2
      clear h2 hn hc hr ho hnew h hb hfx hfz hZ hsub
      go_wp2_with fail
      refine AF.out.lg.isDown.mono ?_
      rintro e wz ⟨rfl, rfl⟩
      rw [show D2.down = false from HRES.out.down]
      have q0 := S2.cell_at AF.out.hope 0
      have q1 := S2.cell_at AF.out.hope 1
      have q2 := S2.cell_at AF.out.hope 2
      have q3 := S2.cell_at AF.out.hope 3
      have qf := fun i => S2.free_at AF.out.hope i
      go_wp2
      have hst := AF.out.store 1 (.slice Ab nb cb)
      replace SA := Lib.hid (SA.out.fr hst.2)
      replace Sb := Lib.hid (Sb.out.fr hst.2)
      have hsx := hst.2.weaken AF.out.sub
      replace SS := Lib.hid (SS.out.fr hsx)
      replace SL := Lib.hid (SL.out.fr hsx)
      replace RK := Lib.hid (RK.out.fr hsx)
      replace AF := Lib.hid (show Af X Z1 w _ b hh x p a _ _ #[.slice A1 n1 c1, .slice Ab nb cb, .slice none 0 0, .bool false] from hst.1)
      clear hst hsx
      clear q0 q1 q2 q3 qf
      have HLD := Lib.hid (hope_cells AF.out.hope)
      have HZR := Lib.hid AF.out.zero
      refine wp_region_held_drew (S := fun _ => True) (by kernel_rfl) trivial (fun hHeld => ?_)
      refine wpAnyH_take (i := 0) (oi := ⟨_, _, _, _, _, _⟩) (v := ?_) rfl (by kernel_rfl) (by kernel_rfl) (by kernel_rfl) (fun _ _ _ h => h) (Or.inl ⟨by rfl, ?_⟩) (by assumption) ?_
      rotate_left
      · intro wz hSw
        try dsimp only at hSw
        go_simp
        try with_reducible rfl
      try simp only [Act.put, List.setIfInBounds_toArray, List.set_cons_zero, List.set_cons_succ]
      refine wpAnyH_take (i := 2) (oi := ⟨_, _, _, _, _, _⟩) (v := ?_) rfl (by kernel_rfl) (by kernel_rfl) (by kernel_rfl) (fun _ _ _ h => h) (Or.inl ⟨by rfl, ?_⟩) (by assumption) ?_
      rotate_left
      · intro wz hSw
        try dsimp only at hSw
        go_simp
        try with_reducible rfl
      try simp only [Act.put, List.setIfInBounds_toArray, List.set_cons_zero, List.set_cons_succ]
      refine wpAnyH_ready (rs := [1]) (by kernel_rfl) (by simp) ?_
      refine AllReadyH.cons (o := ⟨_, _, _, _, _, _⟩) rfl (fun K hK => ?_) AllReadyH.nil
      refine S9.Dk.step_load_part rfl 34 _ rfl ⟨hh, 0, none⟩ rfl [.slice A1 n1 c1, .slice Ab nb cb, .slice none 0 0, .bool false] _ HLD.out Try.underlying34 rfl (by kernel_rfl) ?_
      refine hK.out _ _ trivial (fun hHeld => ?_)
      clear hK K
      try simp only [Act.put, List.setIfInBounds_toArray, List.set_cons_zero, List.set_cons_succ]
      refine wpAnyH_ready (rs := [3]) (by kernel_rfl) (by simp) ?_
      refine AllReadyH.cons (o := ⟨_, _, _, _, _, _⟩) rfl (fun K hK => ?_) AllReadyH.nil
      refine step_store_row rfl 34 _ _ rfl (b + 1) #[.slice A1 n1 c1, .slice Ab nb cb, .slice none 0 0, .bool false] rfl rfl 34 _ HZR.out (by kernel_rfl) rfl (hope_one _ _ _ _ _ _ _ _ _ _) ?_
      refine hK.out _ _ trivial (fun hHeld => ?_)
      clear hK K
      try simp only [Act.put]
      refine wpAnyH_done (by kernel_rfl) ?_ _
      have FIN := Lib.hid (AF.out.last #[.slice A1 n1 c1, .slice Ab nb cb, .slice none 0 0, .bool false])
      clear HLD HZR
      skip
      go_wp2
      refine bodyPost_ret (results_hope rfl rfl FIN.out.2.2.2) rfl ?_
      exact ⟨Z1, _, _, R, R, R, [], _, _, _, _, _, _, _, _, _, _, _, _, _, rfl, ⟨AF.out.sub, FIN.out.2.1, FIN.out.1, HLEN.out, .inl HRES.out⟩, Sb.out.fr FIN.out.2.2.1, SA.out.fr FIN.out.2.2.1, Sb.out.fr FIN.out.2.2.1, Sl.nil _ _⟩
    have hz0 : (z == 0) = false := by simpa using hz
    by_cases hz8 : z = 8
    · subst hz8
      have HRES := Lib.hid (HGD.out.1 rfl)
      clear HGD hz hz0
      go_wp2_with fail
      refine AF.out.lg.isDown.mono ?_
      rintro e wz ⟨rfl, rfl⟩
      rw [show D2.down = true from HRES.out.down]
      have q0 := S2.cell_at AF.out.hope 0
      have q1 := S2.cell_at AF.out.hope 1
      have q2 := S2.cell_at AF.out.hope 2
      have q3 := S2.cell_at AF.out.hope 3
      have qf := fun i => S2.free_at AF.out.hope i
      go_wp2
      clear q0 q1 q2 q3 qf
      have HLD := Lib.hid (hope_cells AF.out.hope)
      have HZR := Lib.hid AF.out.zero
      refine wp_region_held_drew (S := fun _ => True) (by kernel_rfl) trivial (fun hHeld => ?_)
      refine wpAnyH_take (i := 0) (oi := ⟨_, _, _, _, _, _⟩) (v := ?_) rfl (by kernel_rfl) (by kernel_rfl) (by kernel_rfl) (fun _ _ _ h => h) (Or.inl ⟨by rfl, ?_⟩) (by assumption) ?_
      rotate_left
      · intro wz hSw
        try dsimp only at hSw
        go_simp
        try with_reducible rfl
      try simp only [Act.put, List.setIfInBounds_toArray, List.set_cons_zero, List.set_cons_succ]
      refine wpAnyH_take (i := 2) (oi := ⟨_, _, _, _, _, _⟩) (v := ?_) rfl (by kernel_rfl) (by kernel_rfl) (by kernel_rfl) (fun _ _ _ h => h) (Or.inl ⟨by rfl, ?_⟩) (by assumption) ?_
      rotate_left
      · intro wz hSw
        try dsimp only at hSw
        go_simp
        try with_reducible rfl
      try simp only [Act.put, List.setIfInBounds_toArray, List.set_cons_zero, List.set_cons_succ]
      refine wpAnyH_ready (rs := [1]) (by kernel_rfl) (by simp) ?_
      refine AllReadyH.cons (o := ⟨_, _, _, _, _, _⟩) rfl (fun K hK => ?_) AllReadyH.nil
      refine S9.Dk.step_load_part rfl 34 _ rfl ⟨hh, 0, none⟩ rfl [.slice A1 n1 c1, .slice As ns cs, .slice none 0 0, .bool false] _ HLD.out Try.underlying34 rfl (by kernel_rfl) ?_
      refine hK.out _ _ trivial (fun hHeld => ?_)
      clear hK K
      try simp only [Act.put, List.setIfInBounds_toArray, List.set_cons_zero, List.set_cons_succ]
      refine wpAnyH_ready (rs := [3]) (by kernel_rfl) (by simp) ?_
      refine AllReadyH.cons (o := ⟨_, _, _, _, _, _⟩) rfl (fun K hK => ?_) AllReadyH.nil
      refine step_store_row rfl 34 _ _ rfl (b + 1) #[.slice A1 n1 c1, .slice As ns cs, .slice none 0 0, .bool false] rfl rfl 34 _ HZR.out (by kernel_rfl) rfl (hope_one _ _ _ _ _ _ _ _ _ _) ?_
      refine hK.out _ _ trivial (fun hHeld => ?_)
      clear hK K
      try simp only [Act.put]
      refine wpAnyH_done (by kernel_rfl) ?_ _
      have FIN := Lib.hid (AF.out.last #[.slice A1 n1 c1, .slice As ns cs, .slice none 0 0, .bool false])
      clear HLD HZR
      skip
      go_wp2
      refine bodyPost_ret (results_hope rfl rfl FIN.out.2.2.2) rfl ?_
      exact ⟨Z0, _, _, sf, R, sf, [], _, _, _, _, _, _, _, _, _, _, _, _, _, rfl, ⟨AF.out.sub, FIN.out.2.1, FIN.out.1, HLEN.out, .inr HRES.out⟩, (SS.out.fr (FIN.out.2.2.1.weaken AF.out.sub)).mono AF.out.sub, SA.out.fr FIN.out.2.2.1, (SS.out.fr (FIN.out.2.2.1.weaken AF.out.sub)).mono AF.out.sub, Sl.nil _ _⟩
    have HRES := Lib.hid (HGD.out.2.2 hz8)
    clear HGD hz hz8
    go_wp2_with fail
    refine AF.out.lg.isDown.mono ?_
    rintro e wz ⟨rfl, rfl⟩
    rw [show D2.down = false from HRES.out.down]
    have q0 := S2.cell_at AF.out.hope 0
    have q1 := S2.cell_at AF.out.hope 1
    have q2 := S2.cell_at AF.out.hope 2
    have q3 := S2.cell_at AF.out.hope 3
    have qf := fun i => S2.free_at AF.out.hope i
    go_wp2
    have hst := AF.out.store 1 (.slice As ns cs)
    replace SA := Lib.hid (SA.out.fr hst.2)
    have hsx := hst.2.weaken AF.out.sub
    replace SS := Lib.hid (SS.out.fr hsx)
    replace SL := Lib.hid (SL.out.fr hsx)
    replace RK := Lib.hid (RK.out.fr hsx)
    replace AF := Lib.hid (show Af X Z0 w _ b hh x p a _ _ #[.slice A1 n1 c1, .slice As ns cs, .slice none 0 0, .bool false] from hst.1)
    clear hst hsx
    clear q0 q1 q2 q3 qf
    have HLD := Lib.hid (hope_cells AF.out.hope)
    have HZR := Lib.hid AF.out.zero
    refine wp_region_held_drew (S := fun _ => True) (by kernel_rfl) trivial (fun hHeld => ?_)
    refine wpAnyH_take (i := 0) (oi := ⟨_, _, _, _, _, _⟩) (v := ?_) rfl (by kernel_rfl) (by kernel_rfl) (by kernel_rfl) (fun _ _ _ h => h) (Or.inl ⟨by rfl, ?_⟩) (by assumption) ?_
    rotate_left
    · intro wz hSw
      try dsimp only at hSw
      go_simp
      try with_reducible rfl
    try simp only [Act.put, List.setIfInBounds_toArray, List.set_cons_zero, List.set_cons_succ]
    refine wpAnyH_take (i := 2) (oi := ⟨_, _, _, _, _, _⟩) (v := ?_) rfl (by kernel_rfl) (by kernel_rfl) (by kernel_rfl) (fun _ _ _ h => h) (Or.inl ⟨by rfl, ?_⟩) (by assumption) ?_
    rotate_left
    · intro wz hSw
      try dsimp only at hSw
      go_simp
      try with_reducible rfl
    try simp only [Act.put, List.setIfInBounds_toArray, List.set_cons_zero, List.set_cons_succ]
    refine wpAnyH_ready (rs := [1]) (by kernel_rfl) (by simp) ?_
    refine AllReadyH.cons (o := ⟨_, _, _, _, _, _⟩) rfl (fun K hK => ?_) AllReadyH.nil
    refine S9.Dk.step_load_part rfl 34 _ rfl ⟨hh, 0, none⟩ rfl [.slice A1 n1 c1, .slice As ns cs, .slice none 0 0, .bool false] _ HLD.out Try.underlying34 rfl (by kernel_rfl) ?_
    refine hK.out _ _ trivial (fun hHeld => ?_)
    clear hK K
    try simp only [Act.put, List.setIfInBounds_toArray, List.set_cons_zero, List.set_cons_succ]
    refine wpAnyH_ready (rs := [3]) (by kernel_rfl) (by simp) ?_
    refine AllReadyH.cons (o := ⟨_, _, _, _, _, _⟩) rfl (fun K hK => ?_) AllReadyH.nil
    refine step_store_row rfl 34 _ _ rfl (b + 1) #[.slice A1 n1 c1, .slice As ns cs, .slice none 0 0, .bool false] rfl rfl 34 _ HZR.out (by kernel_rfl) rfl (hope_one _ _ _ _ _ _ _ _ _ _) ?_
    refine hK.out _ _ trivial (fun hHeld => ?_)
    clear hK K
    try simp only [Act.put]
    refine wpAnyH_done (by kernel_rfl) ?_ _
    have FIN := Lib.hid (AF.out.last #[.slice A1 n1 c1, .slice As ns cs, .slice none 0 0, .bool false])
    clear HLD HZR
    skip
    go_wp2
    refine bodyPost_ret (results_hope rfl rfl FIN.out.2.2.2) rfl ?_
    exact ⟨Z0, _, _, sf, R, sf, [], _, _, _, _, _, _, _, _, _, _, _, _, _, rfl, ⟨AF.out.sub, FIN.out.2.1, FIN.out.1, HLEN.out, .inl HRES.out⟩, (SS.out.fr (FIN.out.2.2.1.weaken AF.out.sub)).mono AF.out.sub, SA.out.fr FIN.out.2.2.1, (SS.out.fr (FIN.out.2.2.1.weaken AF.out.sub)).mono AF.out.sub, Sl.nil _ _⟩
  · skip
    clear k0 k1 k2 k3 k4
    have hgd : ((lrew c4 D 2 R a.L).1 = 8 → Hope c4 (lrew c4 D 2 R a.L).2.2 2 R sf) ∧ ((lrew c4 D 2 R a.L).1 = 0 → Good c4 (lrew c4 D 2 R a.L).2.2 2 a.L a.L ∧ (lrew c4 D 2 R a.L).2.1 = a.L) ∧ ((lrew c4 D 2 R a.L).1 ≠ 8 → (lrew c4 D 2 R a.L).1 ≠ 0 → Good c4 (lrew c4 D 2 R a.L).2.2 2 R sf ∧ (lrew c4 D 2 R a.L).2.1 = R) := lrew_good (f := 2) (by omega) HG.out a.L
    have hrl := lrew_len D 2 R a.L
    have hl12 := HFW.out.rows
    have hrec := records_le HFW.out.r
    have hrec2 : (records c4 a.L).length ≤ 1000000000 := by have : a.L.length * (2000 + 13) ≤ 12 * 2013 := Nat.mul_le_mul hl12 (by omega); omega
    have K := Rewrite_any _ x p 2 R D a.A a.L.length a.c a.L w2 AF.out.lg (by decide) (SL.out.row.mono fun k hk => .inl (AF.out.sub k hk)) rfl (by omega) HIN.out.reach hrec2
    obtain ⟨r, hrr⟩ : ∃ r, r = lrew c4 D 2 R a.L := ⟨_, rfl⟩
    rw [← hrr] at hgd hrl K
    obtain ⟨z, R2, D2⟩ := r
    dsimp only at hgd hrl K
    have HGD := Lib.hid hgd
    have HRL := Lib.hid (show R2.length ≤ 1001 by have := HR.out; omega)
    have HLEN := Lib.hid (show R2.length ≤ max (R.length + 1) 12 by omega)
    have KH := Lib.hid K
    clear hgd hrl K hrr hl12 hrec hrec2
    refine KH.out.mono ?_
    rintro e w3 ⟨rfl, h, f⟩
    have hfx := f.weaken (fun k hk => .inl (AF.out.sub k hk))
    replace SS := Lib.hid (SS.out.fr hfx)
    replace SL := Lib.hid (SL.out.fr hfx)
    replace RK := Lib.hid (RK.out.fr hfx)
    have hfz := Af.z f
    replace SA := Lib.hid (SA.out.fr hfz)
    replace AF := Lib.hid (AF.out.call h f)
    clear h f hfx hfz KH OA2 HZA
    by_cases hz : z = 0
    · subst hz
      obtain ⟨hg1, hg2⟩ := HGD.out.2.1 rfl
      subst hg2
      have HRES := Lib.hid hg1
      clear HGD hg1
      have k2 := S2.cell_at AF.out.act 2
      have q2 := S2.cell_at AF.out.hope 2
      have q3 := S2.cell_at AF.out.hope 3
      have qf := fun i => S2.free_at AF.out.hope i
      go_wp2_with fail
      clear k2 q2 q3 qf
      have hst := AF.out.store 2 (.slice a.A a.L.length a.c)
      replace SA := Lib.hid (SA.out.fr hst.2)
      have hsx := hst.2.weaken AF.out.sub
      replace SS := Lib.hid (SS.out.fr hsx)
      replace SL := Lib.hid (SL.out.fr hsx)
      replace RK := Lib.hid (RK.out.fr hsx)
      replace AF := Lib.hid (show Af X Z0 w _ b hh x p a _ _ #[.slice A1 n1 c1, .slice As ns cs, .slice a.A a.L.length a.c, .bool false] from hst.1)
      clear hst hsx
      have hst := AF.out.store 3 (.bool false)
      replace SA := Lib.hid (SA.out.fr hst.2)
      have hsx := hst.2.weaken AF.out.sub
      replace SS := Lib.hid (SS.out.fr hsx)
      replace SL := Lib.hid (SL.out.fr hsx)
      replace RK := Lib.hid (RK.out.fr hsx)
      replace AF := Lib.hid (show Af X Z0 w _ b hh x p a _ _ #[.slice A1 n1 c1, .slice As ns cs, .slice a.A a.L.length a.c, .bool false] from hst.1)
      clear hst hsx
      refine (All_new AF.out.lg (by have := HRL.out; omega)).mono ?_
      rintro e w4 ⟨Ab, nb, cb, rfl, hn, hc, hr, ho, hnew, h, hb⟩
      have h2 := AF.out.let_in hb h
      have hfx := Fr.of_below hb (fun k hk => AF.out.lg.lt k (.inl (AF.out.sub k hk)))
      replace SS := Lib.hid (SS.out.fr hfx)
      replace SL := Lib.hid (SL.out.fr hfx)
      replace RK := Lib.hid (RK.out.fr hfx)
      have hfz := Fr.of_below hb (fun k hk => AF.out.lg.lt k (.inl hk))
      obtain ⟨Z1, hZ⟩ : ∃ Z, Z = upTo Z0 ((w3.setCell ⟨hh, 2, none⟩ (.slice a.A a.L.length a.c)).setCell ⟨hh, 3, none⟩ (.bool false)).heap.size w4.heap.size := ⟨_, rfl⟩
      rw [← hZ] at h2
      have hsub : ∀ k, Z0 k → Z1 k := fun k hk => by rw [hZ]; exact .inl hk
      replace SA := Lib.hid ((SA.out.fr hfz).mono hsub)
      have Sb := Lib.hid (show Sl Z1 w4 Ab nb cb a.L from ⟨hr.mono (fun k hk => by rw [hZ]; exact .inr hk), hn, by have := HRL.out; omega⟩)
      replace AF := Lib.hid h2
      clear h2 hn hc hr ho hnew h hb hfx hfz hZ hsub
      go_wp2_with fail
      refine (All_new AF.out.lg (by have := HRL.out; omega)).mono ?_
      rintro e w5 ⟨Ad, nd, cd, rfl, hn, hc, hr, ho, hnew, h, hb⟩
      have h2 := AF.out.let_in hb h
      have hfx := Fr.of_below hb (fun k hk => AF.out.lg.lt k (.inl (AF.out.sub k hk)))
      replace SS := Lib.hid (SS.out.fr hfx)
      replace SL := Lib.hid (SL.out.fr hfx)
      replace RK := Lib.hid (RK.out.fr hfx)
      have hfz := Fr.of_below hb (fun k hk => AF.out.lg.lt k (.inl hk))
      obtain ⟨Z2, hZ⟩ : ∃ Z, Z = upTo Z1 w4.heap.size w5.heap.size := ⟨_, rfl⟩
      rw [← hZ] at h2
      have hsub : ∀ k, Z1 k → Z2 k := fun k hk => by rw [hZ]; exact .inl hk
      replace SA := Lib.hid ((SA.out.fr hfz).mono hsub)
      replace Sb := Lib.hid ((Sb.out.fr hfz).mono hsub)
      have Sd := Lib.hid (show Sl Z2 w5 Ad nd cd a.L from ⟨hr.mono (fun k hk => by rw [hZ]; exact .inr hk), hn, by have := HRL.out; omega⟩)
      replace AF := Lib.hid h2
      clear h2 hn hc hr ho hnew h hb hfx hfz hZ hsub
      have q0 := S2.cell_at AF.out.hope 0
      have qf := fun i => S2.free_at AF.out.hope i
      have hst := AF.out.store 0 (.slice Ad nd cd)
      replace SA := Lib.hid (SA.out.fr hst.2)
      replace Sb := Lib.hid (Sb.out.fr hst.2)
      replace Sd := Lib.hid (Sd.out.fr hst.2)
      have hsx := hst.2.weaken AF.out.sub
      replace SS := Lib.hid (SS.out.fr hsx)
      replace SL := Lib.hid (SL.out.fr hsx)
      replace RK := Lib.hid (RK.out.fr hsx)
      replace AF := Lib.hid (show Af X Z2 w _ b hh x p a _ _ #[.slice Ad nd cd, .slice As ns cs, .slice a.A a.L.length a.c, .bool false] from hst.1)
      clear hst hsx
      go_wp2_with fail
      refine AF.out.lg.isDown.mono ?_
      rintro e wz ⟨rfl, rfl⟩
      rw [show D2.down = false from HRES.out.down]
      have q0 := S2.cell_at AF.out.hope 0
      have q1 := S2.cell_at AF.out.hope 1
      have q2 := S2.cell_at AF.out.hope 2
      have q3 := S2.cell_at AF.out.hope 3
      have qf := fun i => S2.free_at AF.out.hope i
      go_wp2
      have hst := AF.out.store 1 (.slice Ab nb cb)
      replace SA := Lib.hid (SA.out.fr hst.2)
      replace Sb := Lib.hid (Sb.out.fr hst.2)
      replace Sd := Lib.hid (Sd.out.fr hst.2)
      have hsx := hst.2.weaken AF.out.sub
      replace SS := Lib.hid (SS.out.fr hsx)
      replace SL := Lib.hid (SL.out.fr hsx)
      replace RK := Lib.hid (RK.out.fr hsx)
      replace AF := Lib.hid (show Af X Z2 w _ b hh x p a _ _ #[.slice Ad nd cd, .slice Ab nb cb, .slice a.A a.L.length a.c, .bool false] from hst.1)
      clear hst hsx
      clear q0 q1 q2 q3 qf
      have HLD := Lib.hid (hope_cells AF.out.hope)
      have HZR := Lib.hid AF.out.zero
      refine wp_region_held_drew (S := fun _ => True) (by kernel_rfl) trivial (fun hHeld => ?_)
      refine wpAnyH_take (i := 0) (oi := ⟨_, _, _, _, _, _⟩) (v := ?_) rfl (by kernel_rfl) (by kernel_rfl) (by kernel_rfl) (fun _ _ _ h => h) (Or.inl ⟨by rfl, ?_⟩) (by assumption) ?_
      rotate_left
      · intro wz hSw
        try dsimp only at hSw
        go_simp
        try with_reducible rfl
      try simp only [Act.put, List.setIfInBounds_toArray, List.set_cons_zero, List.set_cons_succ]
      refine wpAnyH_take (i := 2) (oi := ⟨_, _, _, _, _, _⟩) (v := ?_) rfl (by kernel_rfl) (by kernel_rfl) (by kernel_rfl) (fun _ _ _ h => h) (Or.inl ⟨by rfl, ?_⟩) (by assumption) ?_
      rotate_left
      · intro wz hSw
        try dsimp only at hSw
        go_simp
        try with_reducible rfl
      try simp only [Act.put, List.setIfInBounds_toArray, List.set_cons_zero, List.set_cons_succ]
      refine wpAnyH_ready (rs := [1]) (by kernel_rfl) (by simp) ?_
      refine AllReadyH.cons (o := ⟨_, _, _, _, _, _⟩) rfl (fun K hK => ?_) AllReadyH.nil
      refine S9.Dk.step_load_part rfl 34 _ rfl ⟨hh, 0, none⟩ rfl [.slice Ad nd cd, .slice Ab nb cb, .slice a.A a.L.length a.c, .bool false] _ HLD.out Try.underlying34 rfl (by kernel_rfl) ?_
      refine hK.out _ _ trivial (fun hHeld => ?_)
      clear hK K
      try simp only [Act.put, List.setIfInBounds_toArray, List.set_cons_zero, List.set_cons_succ]
      refine wpAnyH_ready (rs := [3]) (by kernel_rfl) (by simp) ?_
      refine AllReadyH.cons (o := ⟨_, _, _, _, _, _⟩) rfl (fun K hK => ?_) AllReadyH.nil
      refine step_store_row rfl 34 _ _ rfl (b + 1) #[.slice Ad nd cd, .slice Ab nb cb, .slice a.A a.L.length a.c, .bool false] rfl rfl 34 _ HZR.out (by kernel_rfl) rfl (hope_one _ _ _ _ _ _ _ _ _ _) ?_
      refine hK.out _ _ trivial (fun hHeld => ?_)
      clear hK K
      try simp only [Act.put]
      refine wpAnyH_done (by kernel_rfl) ?_ _
      have FIN := Lib.hid (AF.out.last #[.slice Ad nd cd, .slice Ab nb cb, .slice a.A a.L.length a.c, .bool false])
      clear HLD HZR
      skip
      go_wp2
      refine bodyPost_ret (results_hope rfl rfl FIN.out.2.2.2) rfl ?_
      exact ⟨Z2, _, _, a.L, a.L, a.L, a.L, _, _, _, _, _, _, _, _, _, _, _, _, _, rfl, ⟨AF.out.sub, FIN.out.2.1, FIN.out.1, HLEN.out, .inl HRES.out⟩, Sb.out.fr FIN.out.2.2.1, Sd.out.fr FIN.out.2.2.1, Sb.out.fr FIN.out.2.2.1, (SL.out.fr (FIN.out.2.2.1.weaken AF.out.sub)).mono AF.out.sub⟩
    have hz0 : (z == 0) = false := by simpa using hz
    by_cases hz8 : z = 8
    · subst hz8
      have HRES := Lib.hid (HGD.out.1 rfl)
      clear HGD hz hz0
      have k2 := S2.cell_at AF.out.act 2
      have q2 := S2.cell_at AF.out.hope 2
      have q3 := S2.cell_at AF.out.hope 3
      have qf := fun i => S2.free_at AF.out.hope i
      go_wp2_with fail
      clear k2 q2 q3 qf
      have hst := AF.out.store 2 (.slice a.A a.L.length a.c)
      replace SA := Lib.hid (SA.out.fr hst.2)
      have hsx := hst.2.weaken AF.out.sub
      replace SS := Lib.hid (SS.out.fr hsx)
      replace SL := Lib.hid (SL.out.fr hsx)
      replace RK := Lib.hid (RK.out.fr hsx)
      replace AF := Lib.hid (show Af X Z0 w _ b hh x p a _ _ #[.slice A1 n1 c1, .slice As ns cs, .slice a.A a.L.length a.c, .bool false] from hst.1)
      clear hst hsx
      have hst := AF.out.store 3 (.bool true)
      replace SA := Lib.hid (SA.out.fr hst.2)
      have hsx := hst.2.weaken AF.out.sub
      replace SS := Lib.hid (SS.out.fr hsx)
      replace SL := Lib.hid (SL.out.fr hsx)
      replace RK := Lib.hid (RK.out.fr hsx)
      replace AF := Lib.hid (show Af X Z0 w _ b hh x p a _ _ #[.slice A1 n1 c1, .slice As ns cs, .slice a.A a.L.length a.c, .bool true] from hst.1)
      clear hst hsx
      refine AF.out.lg.isDown.mono ?_
      rintro e wz ⟨rfl, rfl⟩
      rw [show D2.down = true from HRES.out.down]
      have q0 := S2.cell_at AF.out.hope 0
      have q1 := S2.cell_at AF.out.hope 1
      have q2 := S2.cell_at AF.out.hope 2
      have q3 := S2.cell_at AF.out.hope 3
      have qf := fun i => S2.free_at AF.out.hope i
      go_wp2
      clear q0 q1 q2 q3 qf
      have HLD := Lib.hid (hope_cells AF.out.hope)
      have HZR := Lib.hid AF.out.zero
      refine wp_region_held_drew (S := fun _ => True) (by kernel_rfl) trivial (fun hHeld => ?_)
      refine wpAnyH_take (i := 0) (oi := ⟨_, _, _, _, _, _⟩) (v := ?_) rfl (by kernel_rfl) (by kernel_rfl) (by kernel_rfl) (fun _ _ _ h => h) (Or.inl ⟨by rfl, ?_⟩) (by assumption) ?_
      rotate_left
      · intro wz hSw
        try dsimp only at hSw
        go_simp
        try with_reducible rfl
      try simp only [Act.put, List.setIfInBounds_toArray, List.set_cons_zero, List.set_cons_succ]
      refine wpAnyH_take (i := 2) (oi := ⟨_, _, _, _, _, _⟩) (v := ?_) rfl (by kernel_rfl) (by kernel_rfl) (by kernel_rfl) (fun _ _ _ h => h) (Or.inl ⟨by rfl, ?_⟩) (by assumption) ?_
      rotate_left
      · intro wz hSw
        try dsimp only at hSw
        go_simp
        try with_reducible rfl
      try simp only [Act.put, List.setIfInBounds_toArray, List.set_cons_zero, List.set_cons_succ]
      refine wpAnyH_ready (rs := [1]) (by kernel_rfl) (by simp) ?_
      refine AllReadyH.cons (o := ⟨_, _, _, _, _, _⟩) rfl (fun K hK => ?_) AllReadyH.nil
      refine S9.Dk.step_load_part rfl 34 _ rfl ⟨hh, 0, none⟩ rfl [.slice A1 n1 c1, .slice As ns cs, .slice a.A a.L.length a.c, .bool true] _ HLD.out Try.underlying34 rfl (by kernel_rfl) ?_
      refine hK.out _ _ trivial (fun hHeld => ?_)
      clear hK K
      try simp only [Act.put, List.setIfInBounds_toArray, List.set_cons_zero, List.set_cons_succ]
      refine wpAnyH_ready (rs := [3]) (by kernel_rfl) (by simp) ?_
      refine AllReadyH.cons (o := ⟨_, _, _, _, _, _⟩) rfl (fun K hK => ?_) AllReadyH.nil
      refine step_store_row rfl 34 _ _ rfl (b + 1) #[.slice A1 n1 c1, .slice As ns cs, .slice a.A a.L.length a.c, .bool true] rfl rfl 34 _ HZR.out (by kernel_rfl) rfl (hope_one _ _ _ _ _ _ _ _ _ _) ?_
      refine hK.out _ _ trivial (fun hHeld => ?_)
      clear hK K
      try simp only [Act.put]
      refine wpAnyH_done (by kernel_rfl) ?_ _
      have FIN := Lib.hid (AF.out.last #[.slice A1 n1 c1, .slice As ns cs, .slice a.A a.L.length a.c, .bool true])
      clear HLD HZR
      skip
      go_wp2
      refine bodyPost_ret (results_hope rfl rfl FIN.out.2.2.2) rfl ?_
      exact ⟨Z0, _, _, sf, R, sf, a.L, _, _, _, _, _, _, _, _, _, _, _, _, _, rfl, ⟨AF.out.sub, FIN.out.2.1, FIN.out.1, HLEN.out, .inr HRES.out⟩, (SS.out.fr (FIN.out.2.2.1.weaken AF.out.sub)).mono AF.out.sub, SA.out.fr FIN.out.2.2.1, (SS.out.fr (FIN.out.2.2.1.weaken AF.out.sub)).mono AF.out.sub, (SL.out.fr (FIN.out.2.2.1.weaken AF.out.sub)).mono AF.out.sub⟩
    obtain ⟨hg1, hg2⟩ := HGD.out.2.2 hz8 hz
    subst hg2
    have hz8' : (z == 8) = false := by simpa using hz8
    have HRES := Lib.hid hg1
    clear HGD hz hz8 hg1
    have k2 := S2.cell_at AF.out.act 2
    have q2 := S2.cell_at AF.out.hope 2
    have q3 := S2.cell_at AF.out.hope 3
    have qf := fun i => S2.free_at AF.out.hope i
    go_wp2_with fail
    clear k2 q2 q3 qf
    have hst := AF.out.store 2 (.slice a.A a.L.length a.c)
    replace SA := Lib.hid (SA.out.fr hst.2)
    have hsx := hst.2.weaken AF.out.sub
    replace SS := Lib.hid (SS.out.fr hsx)
    replace SL := Lib.hid (SL.out.fr hsx)
    replace RK := Lib.hid (RK.out.fr hsx)
    replace AF := Lib.hid (show Af X Z0 w _ b hh x p a _ _ #[.slice A1 n1 c1, .slice As ns cs, .slice a.A a.L.length a.c, .bool false] from hst.1)
    clear hst hsx
    have hst := AF.out.store 3 (.bool false)
    replace SA := Lib.hid (SA.out.fr hst.2)
    have hsx := hst.2.weaken AF.out.sub
    replace SS := Lib.hid (SS.out.fr hsx)
    replace SL := Lib.hid (SL.out.fr hsx)
    replace RK := Lib.hid (RK.out.fr hsx)
    replace AF := Lib.hid (show Af X Z0 w _ b hh x p a _ _ #[.slice A1 n1 c1, .slice As ns cs, .slice a.A a.L.length a.c, .bool false] from hst.1)
    clear hst hsx
    refine AF.out.lg.isDown.mono ?_
    rintro e wz ⟨rfl, rfl⟩
    rw [show D2.down = false from HRES.out.down]
    have q0 := S2.cell_at AF.out.hope 0
    have q1 := S2.cell_at AF.out.hope 1
    have q2 := S2.cell_at AF.out.hope 2
    have q3 := S2.cell_at AF.out.hope 3
    have qf := fun i => S2.free_at AF.out.hope i
    go_wp2
    have hst := AF.out.store 1 (.slice As ns cs)
    replace SA := Lib.hid (SA.out.fr hst.2)
    have hsx := hst.2.weaken AF.out.sub
    replace SS := Lib.hid (SS.out.fr hsx)
    replace SL := Lib.hid (SL.out.fr hsx)
    replace RK := Lib.hid (RK.out.fr hsx)
    replace AF := Lib.hid (show Af X Z0 w _ b hh x p a _ _ #[.slice A1 n1 c1, .slice As ns cs, .slice a.A a.L.length a.c, .bool false] from hst.1)
    clear hst hsx
    clear q0 q1 q2 q3 qf
    have HLD := Lib.hid (hope_cells AF.out.hope)
    have HZR := Lib.hid AF.out.zero
    refine wp_region_held_drew (S := fun _ => True) (by kernel_rfl) trivial (fun hHeld => ?_)
    refine wpAnyH_take (i := 0) (oi := ⟨_, _, _, _, _, _⟩) (v := ?_) rfl (by kernel_rfl) (by kernel_rfl) (by kernel_rfl) (fun _ _ _ h => h) (Or.inl ⟨by rfl, ?_⟩) (by assumption) ?_
    rotate_left
    · intro wz hSw
      try dsimp only at hSw
      go_simp
      try with_reducible rfl
    try simp only [Act.put, List.setIfInBounds_toArray, List.set_cons_zero, List.set_cons_succ]
    refine wpAnyH_take (i := 2) (oi := ⟨_, _, _, _, _, _⟩) (v := ?_) rfl (by kernel_rfl) (by kernel_rfl) (by kernel_rfl) (fun _ _ _ h => h) (Or.inl ⟨by rfl, ?_⟩) (by assumption) ?_
    rotate_left
    · intro wz hSw
      try dsimp only at hSw
      go_simp
      try with_reducible rfl
    try simp only [Act.put, List.setIfInBounds_toArray, List.set_cons_zero, List.set_cons_succ]
    refine wpAnyH_ready (rs := [1]) (by kernel_rfl) (by simp) ?_
    refine AllReadyH.cons (o := ⟨_, _, _, _, _, _⟩) rfl (fun K hK => ?_) AllReadyH.nil
    refine S9.Dk.step_load_part rfl 34 _ rfl ⟨hh, 0, none⟩ rfl [.slice A1 n1 c1, .slice As ns cs, .slice a.A a.L.length a.c, .bool false] _ HLD.out Try.underlying34 rfl (by kernel_rfl) ?_
    refine hK.out _ _ trivial (fun hHeld => ?_)
    clear hK K
    try simp only [Act.put, List.setIfInBounds_toArray, List.set_cons_zero, List.set_cons_succ]
    refine wpAnyH_ready (rs := [3]) (by kernel_rfl) (by simp) ?_
    refine AllReadyH.cons (o := ⟨_, _, _, _, _, _⟩) rfl (fun K hK => ?_) AllReadyH.nil
    refine step_store_row rfl 34 _ _ rfl (b + 1) #[.slice A1 n1 c1, .slice As ns cs, .slice a.A a.L.length a.c, .bool false] rfl rfl 34 _ HZR.out (by kernel_rfl) rfl (hope_one _ _ _ _ _ _ _ _ _ _) ?_
    refine hK.out _ _ trivial (fun hHeld => ?_)
    clear hK K
    try simp only [Act.put]
    refine wpAnyH_done (by kernel_rfl) ?_ _
    have FIN := Lib.hid (AF.out.last #[.slice A1 n1 c1, .slice As ns cs, .slice a.A a.L.length a.c, .bool false])
    clear HLD HZR
    skip
    go_wp2
    refine bodyPost_ret (results_hope rfl rfl FIN.out.2.2.2) rfl ?_
    exact ⟨Z0, _, _, sf, R2, sf, a.L, _, _, _, _, _, _, _, _, _, _, _, _, _, rfl, ⟨AF.out.sub, FIN.out.2.1, FIN.out.1, HLEN.out, .inl HRES.out⟩, (SS.out.fr (FIN.out.2.2.1.weaken AF.out.sub)).mono AF.out.sub, SA.out.fr FIN.out.2.2.1, (SS.out.fr (FIN.out.2.2.1.weaken AF.out.sub)).mono AF.out.sub, (SL.out.fr (FIN.out.2.2.1.weaken AF.out.sub)).mono AF.out.sub⟩
  · skip
    clear k0 k1 k2 k3 k4
    obtain ⟨D2, hD2⟩ : ∃ D2, D2 = D.lose a.N := ⟨_, rfl⟩
    have K := AF.out.lg.via (D' := D.lose a.N) (Q := fun e => e = .returned (.tuple #[])) fun Y hd hY => S9.Dk.lose_any Y p D a.N HIN.out.n w2 hd
    rw [← hD2] at K
    have HRES := Lib.hid (show Good c4 D2 2 R sf by rw [hD2]; exact lose_good HG.out a.N)
    have HLEN := Lib.hid (show R.length ≤ max (R.length + 1) 12 by omega)
    have KH := Lib.hid K
    clear K hD2
    refine KH.out.mono ?_
    rintro e w3 ⟨rfl, h, f⟩
    have hfx := f.weaken (fun k hk => .inl (AF.out.sub k hk))
    replace SS := Lib.hid (SS.out.fr hfx)
    replace SL := Lib.hid (SL.out.fr hfx)
    replace RK := Lib.hid (RK.out.fr hfx)
    have hfz := Af.z f
    replace SA := Lib.hid (SA.out.fr hfz)
    replace AF := Lib.hid (AF.out.call h f)
    clear h f hfx hfz KH OA2 HZA
    go_wp2_with fail
    refine AF.out.lg.isDown.mono ?_
    rintro e wz ⟨rfl, rfl⟩
    rw [show D2.down = false from HRES.out.down]
    have q0 := S2.cell_at AF.out.hope 0
    have q1 := S2.cell_at AF.out.hope 1
    have q2 := S2.cell_at AF.out.hope 2
    have q3 := S2.cell_at AF.out.hope 3
    have qf := fun i => S2.free_at AF.out.hope i
    go_wp2
    have hst := AF.out.store 1 (.slice As ns cs)
    replace SA := Lib.hid (SA.out.fr hst.2)
    have hsx := hst.2.weaken AF.out.sub
    replace SS := Lib.hid (SS.out.fr hsx)
    replace SL := Lib.hid (SL.out.fr hsx)
    replace RK := Lib.hid (RK.out.fr hsx)
    replace AF := Lib.hid (show Af X Z0 w _ b hh x p a _ _ #[.slice A1 n1 c1, .slice As ns cs, .slice none 0 0, .bool false] from hst.1)
    clear hst hsx
    clear q0 q1 q2 q3 qf
    have HLD := Lib.hid (hope_cells AF.out.hope)
    have HZR := Lib.hid AF.out.zero
    refine wp_region_held_drew (S := fun _ => True) (by kernel_rfl) trivial (fun hHeld => ?_)
    refine wpAnyH_take (i := 0) (oi := ⟨_, _, _, _, _, _⟩) (v := ?_) rfl (by kernel_rfl) (by kernel_rfl) (by kernel_rfl) (fun _ _ _ h => h) (Or.inl ⟨by rfl, ?_⟩) (by assumption) ?_
    rotate_left
    · intro wz hSw
      try dsimp only at hSw
      go_simp
      try with_reducible rfl
    try simp only [Act.put, List.setIfInBounds_toArray, List.set_cons_zero, List.set_cons_succ]
    refine wpAnyH_take (i := 2) (oi := ⟨_, _, _, _, _, _⟩) (v := ?_) rfl (by kernel_rfl) (by kernel_rfl) (by kernel_rfl) (fun _ _ _ h => h) (Or.inl ⟨by rfl, ?_⟩) (by assumption) ?_
    rotate_left
    · intro wz hSw
      try dsimp only at hSw
      go_simp
      try with_reducible rfl
    try simp only [Act.put, List.setIfInBounds_toArray, List.set_cons_zero, List.set_cons_succ]
    refine wpAnyH_ready (rs := [1]) (by kernel_rfl) (by simp) ?_
    refine AllReadyH.cons (o := ⟨_, _, _, _, _, _⟩) rfl (fun K hK => ?_) AllReadyH.nil
    refine S9.Dk.step_load_part rfl 34 _ rfl ⟨hh, 0, none⟩ rfl [.slice A1 n1 c1, .slice As ns cs, .slice none 0 0, .bool false] _ HLD.out Try.underlying34 rfl (by kernel_rfl) ?_
    refine hK.out _ _ trivial (fun hHeld => ?_)
    clear hK K
    try simp only [Act.put, List.setIfInBounds_toArray, List.set_cons_zero, List.set_cons_succ]
    refine wpAnyH_ready (rs := [3]) (by kernel_rfl) (by simp) ?_
    refine AllReadyH.cons (o := ⟨_, _, _, _, _, _⟩) rfl (fun K hK => ?_) AllReadyH.nil
    refine step_store_row rfl 34 _ _ rfl (b + 1) #[.slice A1 n1 c1, .slice As ns cs, .slice none 0 0, .bool false] rfl rfl 34 _ HZR.out (by kernel_rfl) rfl (hope_one _ _ _ _ _ _ _ _ _ _) ?_
    refine hK.out _ _ trivial (fun hHeld => ?_)
    clear hK K
    try simp only [Act.put]
    refine wpAnyH_done (by kernel_rfl) ?_ _
    have FIN := Lib.hid (AF.out.last #[.slice A1 n1 c1, .slice As ns cs, .slice none 0 0, .bool false])
    clear HLD HZR
    skip
    go_wp2
    refine bodyPost_ret (results_hope rfl rfl FIN.out.2.2.2) rfl ?_
    exact ⟨Z0, _, _, sf, R, sf, [], _, _, _, _, _, _, _, _, _, _, _, _, _, rfl, ⟨AF.out.sub, FIN.out.2.1, FIN.out.1, HLEN.out, .inl HRES.out⟩, (SS.out.fr (FIN.out.2.2.1.weaken AF.out.sub)).mono AF.out.sub, SA.out.fr FIN.out.2.2.1, (SS.out.fr (FIN.out.2.2.1.weaken AF.out.sub)).mono AF.out.sub, Sl.nil _ _⟩
  · skip
    clear k0 k1 k2 k3 k4
    obtain ⟨D2, hD2⟩ : ∃ D2, D2 = D.arm a.N a.K := ⟨_, rfl⟩
    have K := AF.out.lg.via (D' := D.arm a.N a.K) (Q := fun e => e = .returned (.tuple #[])) fun Y hd hY => S9.Dk.Arm_any Y p D a.N HIN.out.n a.K a.A' a.K.length a.c' rfl HIN.out.kin w2 (RK.out.mono fun k hk => hY k (.inl (AF.out.sub k hk))) hd
    rw [← hD2] at K
    have HRES := Lib.hid (show Good c4 D2 2 R sf by rw [hD2]; exact arm_good HG.out a.N a.K)
    have HLEN := Lib.hid (show R.length ≤ max (R.length + 1) 12 by omega)
    have KH := Lib.hid K
    clear K hD2
    refine KH.out.mono ?_
    rintro e w3 ⟨rfl, h, f⟩
    have hfx := f.weaken (fun k hk => .inl (AF.out.sub k hk))
    replace SS := Lib.hid (SS.out.fr hfx)
    replace SL := Lib.hid (SL.out.fr hfx)
    replace RK := Lib.hid (RK.out.fr hfx)
    have hfz := Af.z f
    replace SA := Lib.hid (SA.out.fr hfz)
    replace AF := Lib.hid (AF.out.call h f)
    clear h f hfx hfz KH OA2 HZA
    go_wp2_with fail
    refine AF.out.lg.isDown.mono ?_
    rintro e wz ⟨rfl, rfl⟩
    rw [show D2.down = false from HRES.out.down]
    have q0 := S2.cell_at AF.out.hope 0
    have q1 := S2.cell_at AF.out.hope 1
    have q2 := S2.cell_at AF.out.hope 2
    have q3 := S2.cell_at AF.out.hope 3
    have qf := fun i => S2.free_at AF.out.hope i
    go_wp2
    have hst := AF.out.store 1 (.slice As ns cs)
    replace SA := Lib.hid (SA.out.fr hst.2)
    have hsx := hst.2.weaken AF.out.sub
    replace SS := Lib.hid (SS.out.fr hsx)
    replace SL := Lib.hid (SL.out.fr hsx)
    replace RK := Lib.hid (RK.out.fr hsx)
    replace AF := Lib.hid (show Af X Z0 w _ b hh x p a _ _ #[.slice A1 n1 c1, .slice As ns cs, .slice none 0 0, .bool false] from hst.1)
    clear hst hsx
    clear q0 q1 q2 q3 qf
    have HLD := Lib.hid (hope_cells AF.out.hope)
    have HZR := Lib.hid AF.out.zero
    refine wp_region_held_drew (S := fun _ => True) (by kernel_rfl) trivial (fun hHeld => ?_)
    refine wpAnyH_take (i := 0) (oi := ⟨_, _, _, _, _, _⟩) (v := ?_) rfl (by kernel_rfl) (by kernel_rfl) (by kernel_rfl) (fun _ _ _ h => h) (Or.inl ⟨by rfl, ?_⟩) (by assumption) ?_
    rotate_left
    · intro wz hSw
      try dsimp only at hSw
      go_simp
      try with_reducible rfl
    try simp only [Act.put, List.setIfInBounds_toArray, List.set_cons_zero, List.set_cons_succ]
    refine wpAnyH_take (i := 2) (oi := ⟨_, _, _, _, _, _⟩) (v := ?_) rfl (by kernel_rfl) (by kernel_rfl) (by kernel_rfl) (fun _ _ _ h => h) (Or.inl ⟨by rfl, ?_⟩) (by assumption) ?_
    rotate_left
    · intro wz hSw
      try dsimp only at hSw
      go_simp
      try with_reducible rfl
    try simp only [Act.put, List.setIfInBounds_toArray, List.set_cons_zero, List.set_cons_succ]
    refine wpAnyH_ready (rs := [1]) (by kernel_rfl) (by simp) ?_
    refine AllReadyH.cons (o := ⟨_, _, _, _, _, _⟩) rfl (fun K hK => ?_) AllReadyH.nil
    refine S9.Dk.step_load_part rfl 34 _ rfl ⟨hh, 0, none⟩ rfl [.slice A1 n1 c1, .slice As ns cs, .slice none 0 0, .bool false] _ HLD.out Try.underlying34 rfl (by kernel_rfl) ?_
    refine hK.out _ _ trivial (fun hHeld => ?_)
    clear hK K
    try simp only [Act.put, List.setIfInBounds_toArray, List.set_cons_zero, List.set_cons_succ]
    refine wpAnyH_ready (rs := [3]) (by kernel_rfl) (by simp) ?_
    refine AllReadyH.cons (o := ⟨_, _, _, _, _, _⟩) rfl (fun K hK => ?_) AllReadyH.nil
    refine step_store_row rfl 34 _ _ rfl (b + 1) #[.slice A1 n1 c1, .slice As ns cs, .slice none 0 0, .bool false] rfl rfl 34 _ HZR.out (by kernel_rfl) rfl (hope_one _ _ _ _ _ _ _ _ _ _) ?_
    refine hK.out _ _ trivial (fun hHeld => ?_)
    clear hK K
    try simp only [Act.put]
    refine wpAnyH_done (by kernel_rfl) ?_ _
    have FIN := Lib.hid (AF.out.last #[.slice A1 n1 c1, .slice As ns cs, .slice none 0 0, .bool false])
    clear HLD HZR
    skip
    go_wp2
    refine bodyPost_ret (results_hope rfl rfl FIN.out.2.2.2) rfl ?_
    exact ⟨Z0, _, _, sf, R, sf, [], _, _, _, _, _, _, _, _, _, _, _, _, _, rfl, ⟨AF.out.sub, FIN.out.2.1, FIN.out.1, HLEN.out, .inl HRES.out⟩, (SS.out.fr (FIN.out.2.2.1.weaken AF.out.sub)).mono AF.out.sub, SA.out.fr FIN.out.2.2.1, (SS.out.fr (FIN.out.2.2.1.weaken AF.out.sub)).mono AF.out.sub, Sl.nil _ _⟩
  · skip
    clear k0 k1 k2 k3 k4
    have HRES := HG
    have HLEN := Lib.hid (show R.length ≤ max (R.length + 1) 12 by omega)
    clear OA2 HZA
    refine AF.out.lg.isDown.mono ?_
    rintro e wz ⟨rfl, rfl⟩
    rw [show D.down = false from HRES.out.down]
    have q0 := S2.cell_at AF.out.hope 0
    have q1 := S2.cell_at AF.out.hope 1
    have q2 := S2.cell_at AF.out.hope 2
    have q3 := S2.cell_at AF.out.hope 3
    have qf := fun i => S2.free_at AF.out.hope i
    go_wp2
    have hst := AF.out.store 1 (.slice As ns cs)
    replace SA := Lib.hid (SA.out.fr hst.2)
    have hsx := hst.2.weaken AF.out.sub
    replace SS := Lib.hid (SS.out.fr hsx)
    replace SL := Lib.hid (SL.out.fr hsx)
    replace RK := Lib.hid (RK.out.fr hsx)
    replace AF := Lib.hid (show Af X Z0 w _ b hh x p a _ _ #[.slice A1 n1 c1, .slice As ns cs, .slice none 0 0, .bool false] from hst.1)
    clear hst hsx
    clear q0 q1 q2 q3 qf
    have HLD := Lib.hid (hope_cells AF.out.hope)
    have HZR := Lib.hid AF.out.zero
    refine wp_region_held_drew (S := fun _ => True) (by kernel_rfl) trivial (fun hHeld => ?_)
    refine wpAnyH_take (i := 0) (oi := ⟨_, _, _, _, _, _⟩) (v := ?_) rfl (by kernel_rfl) (by kernel_rfl) (by kernel_rfl) (fun _ _ _ h => h) (Or.inl ⟨by rfl, ?_⟩) (by assumption) ?_
    rotate_left
    · intro wz hSw
      try dsimp only at hSw
      go_simp
      try with_reducible rfl
    try simp only [Act.put, List.setIfInBounds_toArray, List.set_cons_zero, List.set_cons_succ]
    refine wpAnyH_take (i := 2) (oi := ⟨_, _, _, _, _, _⟩) (v := ?_) rfl (by kernel_rfl) (by kernel_rfl) (by kernel_rfl) (fun _ _ _ h => h) (Or.inl ⟨by rfl, ?_⟩) (by assumption) ?_
    rotate_left
    · intro wz hSw
      try dsimp only at hSw
      go_simp
      try with_reducible rfl
    try simp only [Act.put, List.setIfInBounds_toArray, List.set_cons_zero, List.set_cons_succ]
    refine wpAnyH_ready (rs := [1]) (by kernel_rfl) (by simp) ?_
    refine AllReadyH.cons (o := ⟨_, _, _, _, _, _⟩) rfl (fun K hK => ?_) AllReadyH.nil
    refine S9.Dk.step_load_part rfl 34 _ rfl ⟨hh, 0, none⟩ rfl [.slice A1 n1 c1, .slice As ns cs, .slice none 0 0, .bool false] _ HLD.out Try.underlying34 rfl (by kernel_rfl) ?_
    refine hK.out _ _ trivial (fun hHeld => ?_)
    clear hK K
    try simp only [Act.put, List.setIfInBounds_toArray, List.set_cons_zero, List.set_cons_succ]
    refine wpAnyH_ready (rs := [3]) (by kernel_rfl) (by simp) ?_
    refine AllReadyH.cons (o := ⟨_, _, _, _, _, _⟩) rfl (fun K hK => ?_) AllReadyH.nil
    refine step_store_row rfl 34 _ _ rfl (b + 1) #[.slice A1 n1 c1, .slice As ns cs, .slice none 0 0, .bool false] rfl rfl 34 _ HZR.out (by kernel_rfl) rfl (hope_one _ _ _ _ _ _ _ _ _ _) ?_
    refine hK.out _ _ trivial (fun hHeld => ?_)
    clear hK K
    try simp only [Act.put]
    refine wpAnyH_done (by kernel_rfl) ?_ _
    have FIN := Lib.hid (AF.out.last #[.slice A1 n1 c1, .slice As ns cs, .slice none 0 0, .bool false])
    clear HLD HZR
    skip
    go_wp2
    refine bodyPost_ret (results_hope rfl rfl FIN.out.2.2.2) rfl ?_
    exact ⟨Z0, _, _, sf, R, sf, [], _, _, _, _, _, _, _, _, _, _, _, _, _, rfl, ⟨AF.out.sub, FIN.out.2.1, FIN.out.1, HLEN.out, .inl HRES.out⟩, (SS.out.fr (FIN.out.2.2.1.weaken AF.out.sub)).mono AF.out.sub, SA.out.fr FIN.out.2.2.1, (SS.out.fr (FIN.out.2.2.1.weaken AF.out.sub)).mono AF.out.sub, Sl.nil _ _⟩
end Wl
end Go.Proofs.Ytihanhdepijijaa
