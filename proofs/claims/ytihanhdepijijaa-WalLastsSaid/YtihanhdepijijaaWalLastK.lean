/-
  Layer 10: WalLasts: what the walk carries.
-/
import Derived.Test.YtihanhdepijijaaWalFound
namespace Go.Proofs.Ytihanhdepijijaa
open Go.RowKit
namespace Wl
open S9.Dk (Dk Fr MD isI Rz)
theorem Lg.rowed {X : Nat → Prop} {w : World} {x p : Nat} {f : Int} {R : List Str} {D : MD} (h : Lg X w x p f R D) {g : Nat} (hg : X g) (cs : Array Value) : Lg X (w.setRow g cs) x p f R D := by
  obtain ⟨v, hv⟩ := h
  have hk : ∀ k, k ≠ g → (w.setRow g cs).heap[k]? = w.heap[k]? := fun k hk => setRow_other w g k cs hk
  refine ⟨v, hv.log.keep fun k hk2 => hk k (fun e => ?_), dk_move hv.disk (fun k _ hn => hk k (fun e => hn (e ▸ .inl hg))) (fun k hk2 => by simpa [World.setRow] using hv.disk.lt k hk2) (fun k hk2 => .inl hk2)⟩
  subst e
  rcases hk2 with e | e
  · exact hv.log.xX (e ▸ hg)
  · exact hv.log.vX _ e hg
/-- A slice of strings does not lie in a box of slices. -/
theorem Sl.off {X : Nat → Prop} {w : World} {A : Option Addr} {n c : Nat} {l : List Str} (h : Sl X w A n c l) {g : Nat} {A1 A2 A3 : Option Addr} {n1 c1 n2 c2 n3 c3 : Nat} {t : Bool} {T : TypeId}
    (hb : w.heap[g]? = some (.cells #[.slice A1 n1 c1, .slice A2 n2 c2, .slice A3 n3 c3, .bool t] T (0, 0))) : Sl (fun k => X k ∧ k ≠ g) w A n c l := by
  refine ⟨?_, h.len, h.small⟩
  rcases h.row with e | ⟨a, h1, h2, h3⟩
  · exact .inl e
  · by_cases hl : S2.Ss l = []
    · exact .inl hl
    · refine .inr ⟨a, h1, ⟨h2, fun e => ?_⟩, h3⟩
      cases l with
      | nil => exact hl rfl
      | cons s l =>
        have hc := h3 0 (.string (S2.B s)) rfl
        have hblk : (a.add 0).block = g := by rw [S2.add_block]; exact e
        have hw : w.heap[(a.add 0).block]? = some (.cells #[.slice A1 n1 c1, .slice A2 n2 c2, .slice A3 n3 c3, .bool t] T (0, 0)) := by rw [hblk]; exact hb
        unfold World.cell? at hc
        rw [hw] at hc
        simp only at hc
        split at hc
        · cases hc
        · have hm := Array.mem_of_getElem? hc
          simp at hm
theorem wpList_load_part_g {P : Program} {ops : Array Oper} {rest : List Oper} {o : Oper} {a : Act} {w : World} {Q : Exit → Act → World → Prop} (hg : Region.wanted o (yielded ops a.tmps) = true) (ty : TypeId) (x : Operand) (ho : o.op = .load ty x)
    (ad : Addr) (hx : a.eval x = .pointer (some ad)) (cs : List Value) (d : TypeDesc) (hc : ∀ j v, cs[j]? = some v → w.cell? (ad.add j) = some v)
    (hu : P.underlying ty = some d) (hd : S9.Dk.aggD d = true) (hi : (P.info? ty).map (·.size) = some cs.length)
    (h : wpList P ops Q rest (a.put o.dst (.agg cs.toArray)) w) : wpList P ops Q (o :: rest) a w := by
  refine wpList_step fun K hKK => ?_
  rw [if_pos hg]
  unfold Oper.wp execOp
  simp only [ho, hx, Instr.loadAt, Instr.sureAddr, Sem.run_bind, Sem.run_pure, Result.andThen_ok, S9.Dk.run_loadVar_part w ad ty cs d hc hu hd hi]
  exact hKK _ _ h
theorem hope_one (A1 A2 A3 : Option Addr) (n1 c1 n2 c2 n3 c3 : Nat) (t : Bool) : (#[Value.slice A1 n1 c1, .slice A2 n2 c2, .slice A3 n3 c3, .bool t] : Array Value).all (·.oneCell') = true := by
  refine Array.all_eq_true_iff_forall_mem.2 fun u hu => ?_
  simp only [List.mem_toArray, List.mem_cons, List.not_mem_nil, or_false] at hu
  rcases hu with rfl | rfl | rfl | rfl <;> rfl
/-- Between two acts. -/
structure Ln (X0 X : Nat → Prop) (W w : World) (hb x p : Nat) (R : List Str) (D : MD) (sf al sf2 fr : List Str) (A : Option Addr) (n c : Nat) (A1 : Option Addr) (n1 c1 : Nat) (A2 : Option Addr) (n2 c2 : Nat) (A3 : Option Addr) (n3 c3 : Nat) (t : Bool) : Prop where
  sub : ∀ k, X0 k → X k
  xh : X hb
  nh : ¬ X0 hb
  lg : Lg X w x p 2 R D
  fr0 : Fr X0 W w
  box : w.heap[hb]? = some (.cells #[.slice A1 n1 c1, .slice A2 n2 c2, .slice A3 n3 c3, .bool t] 34 (0, 0))
  s : Sl X w A n c sf
  s1 : Sl X w A1 n1 c1 al
  s2 : Sl X w A2 n2 c2 sf2
  s3 : Sl X w A3 n3 c3 fr
  st : Good c4 D 2 R sf ∨ Hope c4 D 2 al sf2
theorem Ln.put {X0 X : Nat → Prop} {W w : World} {hb x p : Nat} {R : List Str} {D : MD} {A1 A2 A3 : Option Addr} {n1 c1 n2 c2 n3 c3 : Nat} {t : Bool} (hsub : ∀ k, X0 k → X k) (hx : X hb) (hn : ¬ X0 hb) (hlg : Lg X w x p 2 R D) (hf : Fr X0 W w)
    (hbx : w.heap[hb]? = some (.cells #[.slice A1 n1 c1, .slice A2 n2 c2, .slice A3 n3 c3, .bool t] 34 (0, 0)))
    {sf al sf2 fr : List Str} {B0 B1 B2 B3 : Option Addr} {m0 d0 m1 d1 m2 d2 m3 d3 : Nat} {u : Bool} (h0 : Sl X w B0 m0 d0 sf) (h1 : Sl X w B1 m1 d1 al) (h2 : Sl X w B2 m2 d2 sf2) (h3 : Sl X w B3 m3 d3 fr) (hst : Good c4 D 2 R sf ∨ Hope c4 D 2 al sf2) :
    Ln X0 X W (w.setRow hb #[.slice B1 m1 d1, .slice B2 m2 d2, .slice B3 m3 d3, .bool u]) hb x p R D sf al sf2 fr B0 m0 d0 B1 m1 d1 B2 m2 d2 B3 m3 d3 u := by
  have hfo : Fr (fun k => X k ∧ k ≠ hb) w (w.setRow hb #[.slice B1 m1 d1, .slice B2 m2 d2, .slice B3 m3 d3, .bool u]) := (Fr.refl _ _).row _ _ (fun e => e.2 rfl)
  have mv : ∀ {A : Option Addr} {n c : Nat} {l : List Str}, Sl X w A n c l → Sl X (w.setRow hb #[.slice B1 m1 d1, .slice B2 m2 d2, .slice B3 m3 d3, .bool u]) A n c l := fun h => ((h.off hbx).fr hfo).mono fun _ hk => hk.1
  exact ⟨hsub, hx, hn, hlg.rowed hx _, hf.row _ _ hn, setRow_heap w hb _ _ _ (0, 0) hbx, mv h0, mv h1, mv h2, mv h3, hst⟩
end Wl
end Go.Proofs.Ytihanhdepijijaa
