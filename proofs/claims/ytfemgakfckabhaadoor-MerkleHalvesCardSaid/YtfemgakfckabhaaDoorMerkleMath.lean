/-
  Layer 8: Merkle trees in plain Lean: root, path, link, what results from them, and their laws (accepted, binding, growing) over SHA-256 as a function. No program.
-/
import Derived.Test.YtfemgakfckabhaaDoorSumRefSum
namespace Go.Proofs.YtfemgakfckabhaaDoor
namespace Mk
abbrev Str := List UInt8
/-- The digest. -/
def H (s : Str) : Str := S3.Sha.sha s
theorem flat_len : ∀ l : List (BitVec 32), (l.flatMap S3.Sha.be).length = 4 * l.length
  | [] => rfl
  | x :: t => by
    rw [List.flatMap_cons, List.length_append, flat_len t, List.length_cons]
    simp [S3.Sha.be]
    omega
theorem H_len (s : Str) : (H s).length = 32 := by
  unfold H S3.Sha.sha
  rw [flat_len, S3.blocks_length]
def leaf (s : Str) : Str := H (0 :: s)
def pre (l r : Str) : Str := 1 :: (l ++ r)
def node (l r : Str) : Str := H (pre l r)
theorem node_len (l r : Str) : (node l r).length = 32 := H_len _
theorem leaf_len (s : Str) : (leaf s).length = 32 := H_len _
theorem pre_inj {a b c d : Str} (h : a.length = c.length) (e : pre a b = pre c d) : a = c ∧ b = d := by
  unfold pre at e
  injection e with _ e
  exact List.append_inj e h

/-! ### The split -/
/-- The greatest power of two that is less than n (n at least 2). -/
def sp (n : Nat) : Nat := 2 ^ Nat.log2 (n - 1)
theorem sp_pos (n : Nat) : 1 ≤ sp n := Nat.one_le_two_pow
theorem sp_lt {n : Nat} (h : 2 ≤ n) : sp n < n := by
  have := Nat.log2_self_le (n := n - 1) (by omega)
  unfold sp
  omega
theorem sp_le {n : Nat} (h : 2 ≤ n) : n ≤ 2 * sp n := by
  have := Nat.lt_log2_self (n := n - 1)
  unfold sp
  rw [Nat.pow_succ] at this
  omega
theorem pow_between {a b : Nat} (h1 : 2 ^ a < 2 * 2 ^ b) (h2 : 2 ^ b < 2 * 2 ^ a) : a = b := by
  have h1' : 2 ^ a < 2 ^ (b + 1) := by rw [Nat.pow_succ]; omega
  have h2' : 2 ^ b < 2 ^ (a + 1) := by rw [Nat.pow_succ]; omega
  have := (Nat.pow_lt_pow_iff_right (by decide : 1 < 2)).1 h1'
  have := (Nat.pow_lt_pow_iff_right (by decide : 1 < 2)).1 h2'
  omega
theorem sp_uniq {n e : Nat} (h1 : 2 ^ e < n) (h2 : n ≤ 2 * 2 ^ e) : sp n = 2 ^ e := by
  have hn : 2 ≤ n := by have := Nat.one_le_two_pow (n := e); omega
  have a := sp_lt hn
  have b := sp_le hn
  unfold sp at *
  rw [pow_between (a := (n - 1).log2) (b := e) (by omega) (by omega)]
theorem sp_mono {m n : Nat} (h1 : sp n < m) (h2 : m ≤ n) : sp m = sp n := by
  have hn : 2 ≤ n := by have := sp_pos n; omega
  have b := sp_le hn
  unfold sp at *
  exact sp_uniq h1 (by omega)

/-! ### The root -/
def root (l : List Str) : Str :=
  if _h : l.length < 2 then l.headD (H []) else node (root (l.take (sp l.length))) (root (l.drop (sp l.length)))
termination_by l.length
decreasing_by
  · have := sp_lt (n := l.length) (by omega); rw [List.length_take]; omega
  · have := sp_pos l.length; rw [List.length_drop]; omega
theorem root_nil : root [] = H [] := by rw [root]; rfl
theorem root_one (a : Str) : root [a] = a := by rw [root]; rfl
theorem root_two {l : List Str} (h : 2 ≤ l.length) : root l = node (root (l.take (sp l.length))) (root (l.drop (sp l.length))) := by
  rw [root, dif_neg (by omega)]
theorem len_one {α : Type} {l : List α} (h : l.length = 1) : ∃ a, l = [a] := by
  match l, h with
  | [a], _ => exact ⟨a, rfl⟩
theorem root_len {l : List Str} (h0 : l ≠ []) (h : ∀ s ∈ l, s.length = 32) : (root l).length = 32 := by
  by_cases h2 : 2 ≤ l.length
  · rw [root_two h2]; exact node_len _ _
  · have : l.length = 1 := by have := List.length_pos_iff.2 h0; omega
    obtain ⟨a, rfl⟩ := len_one this
    rw [root_one]; exact h a (by simp)
theorem root_le {l : List Str} {n : Nat} (hn : 32 ≤ n) (h : ∀ s ∈ l, s.length ≤ n) : (root l).length ≤ n := by
  by_cases h2 : 2 ≤ l.length
  · rw [root_two h2, node_len]; exact hn
  · match l, h with
    | [], _ => rw [root_nil, H_len]; exact hn
    | [a], h => rw [root_one]; exact h a (by simp)
    | a :: b :: t, _ => simp at h2
theorem take_ne {l : List Str} (h : 2 ≤ l.length) : l.take (sp l.length) ≠ [] := by
  have := sp_pos l.length
  intro e
  have := congrArg List.length e
  rw [List.length_take, List.length_nil] at this
  omega
theorem drop_ne {l : List Str} (h : 2 ≤ l.length) : l.drop (sp l.length) ≠ [] := by
  have := sp_lt h
  intro e
  have := congrArg List.length e
  rw [List.length_drop, List.length_nil] at this
  omega
/-- What is digested for a root. -/
def inputs (l : List Str) : List Str :=
  if _h : l.length < 2 then [] else inputs (l.take (sp l.length)) ++ inputs (l.drop (sp l.length)) ++ [pre (root (l.take (sp l.length))) (root (l.drop (sp l.length)))]
termination_by l.length
decreasing_by
  · have := sp_lt (n := l.length) (by omega); rw [List.length_take]; omega
  · have := sp_pos l.length; rw [List.length_drop]; omega
theorem inputs_one {l : List Str} (h : l.length < 2) : inputs l = [] := by rw [inputs, dif_pos h]
theorem inputs_two {l : List Str} (h : 2 ≤ l.length) : inputs l = inputs (l.take (sp l.length)) ++ inputs (l.drop (sp l.length)) ++ [pre (root (l.take (sp l.length))) (root (l.drop (sp l.length)))] := by
  rw [inputs, dif_neg (by omega)]
theorem inputs_len (d : Nat) : ∀ l : List Str, l.length ≤ d → (inputs l).length ≤ l.length - 1 := by
  induction d with
  | zero => intro l hd; rw [inputs_one (by omega)]; simp
  | succ d ih =>
    intro l hd
    by_cases h2 : 2 ≤ l.length
    · have s1 := sp_lt h2
      have s0 := sp_pos l.length
      have a := ih (l.take (sp l.length)) (by rw [List.length_take]; omega)
      have b := ih (l.drop (sp l.length)) (by rw [List.length_drop]; omega)
      rw [List.length_take] at a
      rw [List.length_drop] at b
      rw [inputs_two h2, List.length_append, List.length_append, List.length_singleton]
      omega
    · rw [inputs_one (by omega)]; simp
theorem pre_len (l r : Str) : (pre l r).length = 1 + l.length + r.length := by simp [pre]; omega
theorem inputs_le {n : Nat} (hn : 32 ≤ n) (d : Nat) : ∀ l : List Str, l.length ≤ d → (∀ s ∈ l, s.length ≤ n) → ∀ s ∈ inputs l, s.length ≤ 1 + n + n := by
  induction d with
  | zero => intro l hd _ s h; rw [inputs_one (by omega)] at h; simp at h
  | succ d ih =>
    intro l hd hs s h
    by_cases h2 : 2 ≤ l.length
    · have s1 := sp_lt h2
      have s0 := sp_pos l.length
      have tl : ∀ s ∈ l.take (sp l.length), s.length ≤ n := fun s h => hs s (List.mem_of_mem_take h)
      have dl : ∀ s ∈ l.drop (sp l.length), s.length ≤ n := fun s h => hs s (List.mem_of_mem_drop h)
      rw [inputs_two h2, List.mem_append, List.mem_append, List.mem_singleton] at h
      rcases h with (h | h) | rfl
      · exact ih _ (by rw [List.length_take]; omega) tl s h
      · exact ih _ (by rw [List.length_drop]; omega) dl s h
      · have := root_le hn tl
        have := root_le hn dl
        rw [pre_len]
        omega
    · rw [inputs_one (by omega)] at h; simp at h
/-- No two strings of a list with the same digest. -/
def NoClash (l : List Str) : Prop := ∀ a ∈ l, ∀ b ∈ l, H a = H b → a = b
theorem NoClash.sub {l m : List Str} (h : NoClash l) (hs : ∀ x ∈ m, x ∈ l) : NoClash m := fun a ha b hb e => h a (hs a ha) b (hs b hb) e
theorem node_inj {L : List Str} {a b c d : Str} (h : NoClash L) (hl : a.length = c.length) (h1 : pre a b ∈ L) (h2 : pre c d ∈ L) (e : node a b = node c d) : a = c ∧ b = d :=
  pre_inj hl (h _ h1 _ h2 e)

/-! ### The path, from its end -/
def pathR (l : List Str) (i : Nat) : List Str :=
  if _h : l.length < 2 then [] else if i < sp l.length then root (l.drop (sp l.length)) :: pathR (l.take (sp l.length)) i
  else root (l.take (sp l.length)) :: pathR (l.drop (sp l.length)) (i - sp l.length)
termination_by l.length
decreasing_by
  · have := sp_lt (n := l.length) (by omega); rw [List.length_take]; omega
  · have := sp_pos l.length; rw [List.length_drop]; omega
theorem pathR_one {l : List Str} (h : l.length < 2) (i : Nat) : pathR l i = [] := by rw [pathR, dif_pos h]
theorem pathR_lo {l : List Str} {i : Nat} (h : 2 ≤ l.length) (hi : i < sp l.length) : pathR l i = root (l.drop (sp l.length)) :: pathR (l.take (sp l.length)) i := by
  rw [pathR, dif_neg (by omega), if_pos hi]
theorem pathR_hi {l : List Str} {i : Nat} (h : 2 ≤ l.length) (hi : sp l.length ≤ i) : pathR l i = root (l.take (sp l.length)) :: pathR (l.drop (sp l.length)) (i - sp l.length) := by
  rw [pathR, dif_neg (by omega), if_neg (by omega)]
def path (l : List Str) (i : Nat) : List Str := (pathR l i).reverse
/-- The result of a path (from its end), with what is digested for it. -/
def climbR (x : Str) : Nat → Nat → List Str → Option (Str × List Str)
  | _, n, [] => if n = 1 then some (x, []) else none
  | i, n, q :: t => if n = 1 then none else
    if i < sp n then (climbR x i (sp n) t).map fun r => (node r.1 q, r.2 ++ [pre r.1 q])
    else (climbR x (i - sp n) (n - sp n) t).map fun r => (node q r.1, r.2 ++ [pre q r.1])
def climb (x : Str) (i n : Nat) (p : List Str) : Option (Str × List Str) := climbR x i n p.reverse
theorem climbR_len {x : Str} (hx : x.length = 32) : ∀ (t : List Str) (i n : Nat) (r : Str × List Str), climbR x i n t = some r → r.1.length = 32
  | [], i, n, r, h => by
    unfold climbR at h
    split at h
    · cases h; exact hx
    · cases h
  | q :: t, i, n, r, h => by
    unfold climbR at h
    split at h
    · cases h
    split at h
    · obtain ⟨r', _, rfl⟩ := Option.map_eq_some_iff.1 h
      exact node_len _ _
    · obtain ⟨r', _, rfl⟩ := Option.map_eq_some_iff.1 h
      exact node_len _ _
theorem climbR_le {x : Str} : ∀ (t : List Str) (i n : Nat) (r : Str × List Str), climbR x i n t = some r → r.1 = x ∨ r.1.length = 32
  | [], i, n, r, h => by
    unfold climbR at h
    split at h
    · cases h; exact .inl rfl
    · cases h
  | q :: t, i, n, r, h => by
    unfold climbR at h
    split at h
    · cases h
    split at h
    · obtain ⟨r', _, rfl⟩ := Option.map_eq_some_iff.1 h
      exact .inr (node_len _ _)
    · obtain ⟨r', _, rfl⟩ := Option.map_eq_some_iff.1 h
      exact .inr (node_len _ _)
theorem take_get {l : List Str} {i k : Nat} (hi : i < k) : (l.take k)[i]? = l[i]? := by
  rw [List.getElem?_take, if_pos hi]
theorem drop_get {l : List Str} {i k : Nat} (hi : k ≤ i) : (l.drop k)[i - k]? = l[i]? := by
  rw [List.getElem?_drop]; congr 1; omega
/-- The path of every leaf leads to the root. -/
theorem climbs (d : Nat) : ∀ (l : List Str) (i : Nat) (x : Str), l.length ≤ d → l[i]? = some x → ∃ ins, climbR x i l.length (pathR l i) = some (root l, ins) := by
  induction d with
  | zero =>
    intro l i x hd hx
    have := (List.getElem?_eq_some_iff.1 hx).1
    omega
  | succ d ih =>
    intro l i x hd hx
    have hi := (List.getElem?_eq_some_iff.1 hx).1
    by_cases h2 : 2 ≤ l.length
    · have s1 := sp_lt h2
      have s0 := sp_pos l.length
      by_cases hk : i < sp l.length
      · obtain ⟨ins, e⟩ := ih (l.take (sp l.length)) i x (by rw [List.length_take]; omega) (by rw [take_get hk]; exact hx)
        rw [show (l.take (sp l.length)).length = sp l.length by rw [List.length_take]; omega] at e
        rw [pathR_lo h2 hk, climbR, if_neg (by omega), if_pos hk, e, root_two h2]
        exact ⟨_, rfl⟩
      · obtain ⟨ins, e⟩ := ih (l.drop (sp l.length)) (i - sp l.length) x (by rw [List.length_drop]; omega) (by rw [drop_get (by omega)]; exact hx)
        rw [show (l.drop (sp l.length)).length = l.length - sp l.length by rw [List.length_drop]] at e
        rw [pathR_hi h2 (by omega), climbR, if_neg (by omega), if_neg hk, e, root_two h2]
        exact ⟨_, rfl⟩
    · have h1 : l.length = 1 := by omega
      obtain ⟨a, rfl⟩ := len_one h1
      have : i = 0 := by simp at hi; omega
      subst this
      rw [pathR_one (by simp), root_one]
      simp at hx
      subst hx
      exact ⟨[], rfl⟩
theorem pathR_lens (d : Nat) : ∀ (l : List Str) (i : Nat), l.length ≤ d → (∀ s ∈ l, s.length = 32) → i < l.length → ∀ s ∈ pathR l i, s.length = 32 := by
  induction d with
  | zero => intro l i hd _ hi; omega
  | succ d ih =>
    intro l i hd hs hi
    by_cases h2 : 2 ≤ l.length
    · have s1 := sp_lt h2
      have s0 := sp_pos l.length
      have ht : ∀ s ∈ l.take (sp l.length), s.length = 32 := fun s h => hs s (List.mem_of_mem_take h)
      have hd' : ∀ s ∈ l.drop (sp l.length), s.length = 32 := fun s h => hs s (List.mem_of_mem_drop h)
      by_cases hk : i < sp l.length
      · rw [pathR_lo h2 hk]
        intro s h
        rcases List.mem_cons.1 h with rfl | h
        · exact root_len (drop_ne h2) hd'
        · exact ih _ _ (by rw [List.length_take]; omega) ht (by rw [List.length_take]; omega) s h
      · rw [pathR_hi h2 (by omega)]
        intro s h
        rcases List.mem_cons.1 h with rfl | h
        · exact root_len (take_ne h2) ht
        · exact ih _ _ (by rw [List.length_drop]; omega) hd' (by rw [List.length_drop]; omega) s h
    · rw [pathR_one (by omega)]
      intro s h; simp at h
theorem pathR_length (d : Nat) : ∀ (l : List Str) (i : Nat), l.length ≤ d → (pathR l i).length ≤ l.length := by
  induction d with
  | zero => intro l i hd; rw [pathR_one (by omega)]; simp
  | succ d ih =>
    intro l i hd
    by_cases h2 : 2 ≤ l.length
    · have s1 := sp_lt h2
      have s0 := sp_pos l.length
      by_cases hk : i < sp l.length
      · have := ih (l.take (sp l.length)) i (by rw [List.length_take]; omega)
        rw [pathR_lo h2 hk, List.length_cons]
        rw [List.length_take] at this
        omega
      · have := ih (l.drop (sp l.length)) (i - sp l.length) (by rw [List.length_drop]; omega)
        rw [pathR_hi h2 (by omega), List.length_cons]
        rw [List.length_drop] at this
        omega
    · rw [pathR_one (by omega)]; simp
/-- What is accepted is the leaf with its path, without a clash. -/
theorem binds (d : Nat) : ∀ (l : List Str) (i : Nat) (x : Str) (t ins L : List Str), l.length ≤ d → i < l.length → (∀ s ∈ l, s.length = 32) → x.length = 32 → NoClash L →
    (∀ s ∈ inputs l, s ∈ L) → (∀ s ∈ ins, s ∈ L) → climbR x i l.length t = some (root l, ins) → l[i]? = some x ∧ t = pathR l i := by
  induction d with
  | zero => intro l i x t ins L hd hi; omega
  | succ d ih =>
    intro l i x t ins L hd hi hs hx hL h1 h2 hc
    by_cases hl : 2 ≤ l.length
    · have s1 := sp_lt hl
      have s0 := sp_pos l.length
      have ht : ∀ s ∈ l.take (sp l.length), s.length = 32 := fun s h => hs s (List.mem_of_mem_take h)
      have hd' : ∀ s ∈ l.drop (sp l.length), s.length = 32 := fun s h => hs s (List.mem_of_mem_drop h)
      have e1 : (l.take (sp l.length)).length = sp l.length := by rw [List.length_take]; omega
      have e2 : (l.drop (sp l.length)).length = l.length - sp l.length := by rw [List.length_drop]
      rw [inputs_two hl] at h1
      have hp := h1 (pre (root (l.take (sp l.length))) (root (l.drop (sp l.length)))) (by simp)
      match t, hc with
      | [], hc =>
        rw [climbR, if_neg (by omega)] at hc
        cases hc
      | q :: t, hc =>
        rw [climbR, if_neg (by omega)] at hc
        by_cases hk : i < sp l.length
        · rw [if_pos hk] at hc
          obtain ⟨r, hr, e⟩ := Option.map_eq_some_iff.1 hc
          rw [root_two hl] at e
          injection e with e3 e4
          subst e4
          have hq := node_inj hL (by rw [climbR_len hx _ _ _ _ hr, root_len (take_ne hl) ht]) (h2 _ (by simp)) hp e3
          obtain ⟨r1, r2⟩ := r
          obtain ⟨rfl, rfl⟩ := hq
          have := ih (l.take (sp l.length)) i x t r2 L (by omega) (by omega) ht hx hL (fun s h => h1 s (by simp [h])) (fun s h => h2 s (by simp [h])) (by rw [e1]; exact hr)
          rw [take_get hk] at this
          exact ⟨this.1, by rw [pathR_lo hl hk, this.2]⟩
        · rw [if_neg hk] at hc
          obtain ⟨r, hr, e⟩ := Option.map_eq_some_iff.1 hc
          rw [root_two hl] at e
          injection e with e3 e4
          subst e4
          have hr32 := climbR_len hx _ _ _ _ hr
          have hroot := root_len (take_ne hl) ht
          have hdr := root_len (drop_ne hl) hd'
          have hpre := hL _ (h2 (pre q r.1) (by simp)) _ hp e3
          have hql : q.length = (root (l.take (sp l.length))).length := by
            have := congrArg List.length hpre
            simp only [pre, List.length_cons, List.length_append] at this
            omega
          have hq := pre_inj hql hpre
          obtain ⟨r1, r2⟩ := r
          obtain ⟨rfl, rfl⟩ := hq
          have := ih (l.drop (sp l.length)) (i - sp l.length) x t r2 L (by omega) (by omega) hd' hx hL (fun s h => h1 s (by simp [h])) (fun s h => h2 s (by simp [h])) (by rw [e2]; exact hr)
          rw [drop_get (by omega)] at this
          exact ⟨this.1, by rw [pathR_hi hl (by omega), this.2]⟩
    · have h1 : l.length = 1 := by omega
      obtain ⟨a, rfl⟩ := len_one h1
      have : i = 0 := by simp at hi; omega
      subst this
      rw [pathR_one (by simp)]
      rw [root_one] at hc
      match t, hc with
      | [], hc =>
        rw [climbR, if_pos (by simp)] at hc
        cases hc
        exact ⟨rfl, rfl⟩
      | q :: t, hc =>
        rw [climbR, if_pos (by simp)] at hc
        cases hc
/-- Two that are accepted for the same root are the same, without a clash. -/
theorem once (x y : Str) (hx : x.length = 32) (hy : y.length = 32) (L : List Str) (hL : NoClash L) : ∀ (t u : List Str) (i n : Nat) (r : Str) (a b : List Str), (∀ s ∈ t, s.length = 32) → (∀ s ∈ u, s.length = 32) → (∀ s ∈ a, s ∈ L) → (∀ s ∈ b, s ∈ L) →
    climbR x i n t = some (r, a) → climbR y i n u = some (r, b) → x = y ∧ t = u
  | [], [], i, n, r, a, b, _, _, _, _, h, k => by
    unfold climbR at h k
    split at h
    · rw [if_pos (by assumption)] at k
      cases h; cases k
      exact ⟨rfl, rfl⟩
    · cases h
  | [], q :: u, i, n, r, a, b, _, _, _, _, h, k => by
    unfold climbR at h k
    split at h
    · rw [if_pos (by assumption)] at k
      cases k
    · cases h
  | q :: t, [], i, n, r, a, b, _, _, _, _, h, k => by
    unfold climbR at h k
    split at k
    · rw [if_pos (by assumption)] at h
      cases h
    · cases k
  | q :: t, p :: u, i, n, r, a, b, ht, hu, ha, hb, h, k => by
    unfold climbR at h k
    split at h
    · cases h
    rw [if_neg (by assumption)] at k
    split at h
    · rw [if_pos (by assumption)] at k
      obtain ⟨⟨r1, r2⟩, hr, e⟩ := Option.map_eq_some_iff.1 h
      obtain ⟨⟨s1, s2⟩, hs, f⟩ := Option.map_eq_some_iff.1 k
      injection e with e1 e2
      injection f with f1 f2
      subst e2 f2
      obtain ⟨g1, g2⟩ := node_inj hL (by rw [climbR_len hx _ _ _ _ hr, climbR_len hy _ _ _ _ hs]) (ha _ (by simp)) (hb _ (by simp)) (e1.trans f1.symm)
      simp only at g1 g2
      subst g1 g2
      obtain ⟨g1, g2⟩ := once x y hx hy L hL t u _ _ _ _ _ (fun s h => ht s (by simp [h])) (fun s h => hu s (by simp [h])) (fun s h => ha s (by simp [h])) (fun s h => hb s (by simp [h])) hr hs
      exact ⟨g1, by rw [g2]⟩
    · rw [if_neg (by assumption)] at k
      obtain ⟨⟨r1, r2⟩, hr, e⟩ := Option.map_eq_some_iff.1 h
      obtain ⟨⟨s1, s2⟩, hs, f⟩ := Option.map_eq_some_iff.1 k
      injection e with e1 e2
      injection f with f1 f2
      subst e2 f2
      obtain ⟨g1, g2⟩ := node_inj hL (by rw [ht q (by simp), hu p (by simp)]) (ha _ (by simp)) (hb _ (by simp)) (e1.trans f1.symm)
      simp only at g1 g2
      subst g1 g2
      obtain ⟨g1, g2⟩ := once x y hx hy L hL t u _ _ _ _ _ (fun s h => ht s (by simp [h])) (fun s h => hu s (by simp [h])) (fun s h => ha s (by simp [h])) (fun s h => hb s (by simp [h])) hr hs
      exact ⟨g1, by rw [g2]⟩
/-- Lists of the same length with the same root are the same, without a clash. -/
theorem root_inj (d : Nat) (L : List Str) (hL : NoClash L) : ∀ (a b : List Str), a.length ≤ d → a.length = b.length → (∀ s ∈ a, s.length = 32) → (∀ s ∈ b, s.length = 32) → (∀ s ∈ inputs a, s ∈ L) → (∀ s ∈ inputs b, s ∈ L) → root a = root b → a = b := by
  induction d with
  | zero =>
    intro a b hd e _ _ _ _ _
    rw [List.eq_nil_of_length_eq_zero (show a.length = 0 by omega), List.eq_nil_of_length_eq_zero (show b.length = 0 by omega)]
  | succ d ih =>
    intro a b hd e ha hb h1 h2 hr
    by_cases hl : 2 ≤ a.length
    · have hl' : 2 ≤ b.length := by omega
      have s1 := sp_lt hl
      have s0 := sp_pos a.length
      rw [inputs_two hl] at h1
      rw [inputs_two hl'] at h2
      have t1 : ∀ s ∈ a.take (sp a.length), s.length = 32 := fun s h => ha s (List.mem_of_mem_take h)
      have t2 : ∀ s ∈ a.drop (sp a.length), s.length = 32 := fun s h => ha s (List.mem_of_mem_drop h)
      have t3 : ∀ s ∈ b.take (sp b.length), s.length = 32 := fun s h => hb s (List.mem_of_mem_take h)
      have t4 : ∀ s ∈ b.drop (sp b.length), s.length = 32 := fun s h => hb s (List.mem_of_mem_drop h)
      rw [root_two hl, root_two hl'] at hr
      obtain ⟨g1, g2⟩ := node_inj hL (by rw [root_len (take_ne hl) t1, root_len (take_ne hl') t3]) (h1 _ (by simp)) (h2 _ (by simp)) hr
      have f1 := ih _ _ (by rw [List.length_take]; omega) (by rw [List.length_take, List.length_take, e]) t1 t3 (fun s h => h1 s (by simp [h])) (fun s h => h2 s (by simp [h])) g1
      have f2 := ih _ _ (by rw [List.length_drop]; omega) (by rw [List.length_drop, List.length_drop, e]) t2 t4 (fun s h => h1 s (by simp [h])) (fun s h => h2 s (by simp [h])) g2
      rw [← List.take_append_drop (sp a.length) a, f1, f2, List.take_append_drop]
    · by_cases h0 : a.length = 0
      · rw [List.eq_nil_of_length_eq_zero h0, List.eq_nil_of_length_eq_zero (show b.length = 0 by omega)]
      · obtain ⟨x, rfl⟩ := len_one (show a.length = 1 by omega)
        obtain ⟨y, rfl⟩ := len_one (show b.length = 1 by simp at e; omega)
        rw [root_one, root_one] at hr
        rw [hr]

/-! ### The link, from its end -/
def linkR (l : List Str) (m : Nat) (whole : Bool) : List Str :=
  if m = l.length then (if whole then [] else [root l])
  else if _h : l.length < 2 then [] else
  if m ≤ sp l.length then root (l.drop (sp l.length)) :: linkR (l.take (sp l.length)) m whole
  else root (l.take (sp l.length)) :: linkR (l.drop (sp l.length)) (m - sp l.length) false
termination_by l.length
decreasing_by
  · have := sp_lt (n := l.length) (by omega); rw [List.length_take]; omega
  · have := sp_pos l.length; rw [List.length_drop]; omega
theorem linkR_all (l : List Str) (whole : Bool) : linkR l l.length whole = if whole then [] else [root l] := by rw [linkR, if_pos rfl]
theorem linkR_lo {l : List Str} {m : Nat} {w : Bool} (h : 2 ≤ l.length) (hn : m ≠ l.length) (hm : m ≤ sp l.length) : linkR l m w = root (l.drop (sp l.length)) :: linkR (l.take (sp l.length)) m w := by
  rw [linkR, if_neg hn, dif_neg (by omega), if_pos hm]
theorem linkR_hi {l : List Str} {m : Nat} {w : Bool} (h : 2 ≤ l.length) (hn : m ≠ l.length) (hm : sp l.length < m) : linkR l m w = root (l.take (sp l.length)) :: linkR (l.drop (sp l.length)) (m - sp l.length) false := by
  rw [linkR, if_neg hn, dif_neg (by omega), if_neg (by omega)]
def link (l : List Str) (m : Nat) : List Str := if m = 0 then [] else (linkR l m true).reverse
/-- The two roots that result from a link (from its end), with what is digested for them. -/
def rootsR (old : Str) : Nat → Nat → List Str → Bool → Option (Str × Str × List Str)
  | m, n, [], mark => if m = n ∧ mark = true then some (old, old, []) else none
  | m, n, q :: t, mark => if m = n then (if mark = false ∧ t = [] then some (q, q, []) else none) else
    if m ≤ sp n then (rootsR old m (sp n) t mark).map fun r => (r.1, node r.2.1 q, r.2.2 ++ [pre r.2.1 q])
    else (rootsR old (m - sp n) (n - sp n) t false).map fun r => (node q r.1, node q r.2.1, r.2.2 ++ [pre q r.1, pre q r.2.1])
def roots (old : Str) (m n : Nat) (p : List Str) (mark : Bool) : Option (Str × Str × List Str) := rootsR old m n p.reverse mark
theorem rootsR_len {old : Str} (ho : old.length = 32) : ∀ (t : List Str) (m n : Nat) (mark : Bool) (r : Str × Str × List Str), (∀ s ∈ t, s.length = 32) → rootsR old m n t mark = some r → r.1.length = 32 ∧ r.2.1.length = 32
  | [], m, n, mark, r, _, h => by
    unfold rootsR at h
    split at h
    · cases h; exact ⟨ho, ho⟩
    · cases h
  | q :: t, m, n, mark, r, hs, h => by
    unfold rootsR at h
    split at h
    · split at h
      · cases h; exact ⟨hs q (by simp), hs q (by simp)⟩
      · cases h
    split at h
    · obtain ⟨r', hr, rfl⟩ := Option.map_eq_some_iff.1 h
      exact ⟨(rootsR_len ho t _ _ _ _ (fun s h => hs s (by simp [h])) hr).1, node_len _ _⟩
    · obtain ⟨r', hr, rfl⟩ := Option.map_eq_some_iff.1 h
      exact ⟨node_len _ _, node_len _ _⟩
/-- The link leads to both roots. -/
theorem links (d : Nat) : ∀ (l : List Str) (m : Nat) (mark : Bool) (old : Str), l.length ≤ d → 0 < m → m ≤ l.length → (mark = true → old = root (l.take m)) → ∃ ins, rootsR old m l.length (linkR l m mark) mark = some (root (l.take m), root l, ins) := by
  induction d with
  | zero => intro l m mark old hd h0 hm; omega
  | succ d ih =>
    intro l m mark old hd h0 hm ho
    by_cases he : m = l.length
    · subst he
      rw [linkR_all]
      cases mark with
      | true =>
        rw [ho rfl, List.take_length]
        refine ⟨[], ?_⟩
        show rootsR _ _ _ [] _ = _
        rw [rootsR, if_pos ⟨rfl, rfl⟩]
      | false =>
        refine ⟨[], ?_⟩
        show rootsR _ _ _ [_] _ = _
        rw [rootsR, if_pos rfl, if_pos ⟨rfl, rfl⟩, List.take_length]
    · have h2 : 2 ≤ l.length := by omega
      have s1 := sp_lt h2
      have s0 := sp_pos l.length
      by_cases hk : m ≤ sp l.length
      · obtain ⟨ins, e⟩ := ih (l.take (sp l.length)) m mark old (by rw [List.length_take]; omega) h0 (by rw [List.length_take]; omega) (by rw [List.take_take, Nat.min_eq_left hk]; exact ho)
        rw [show (l.take (sp l.length)).length = sp l.length by rw [List.length_take]; omega, List.take_take, Nat.min_eq_left hk] at e
        rw [linkR_lo h2 he hk, rootsR, if_neg he, if_pos hk, e, root_two h2]
        exact ⟨_, rfl⟩
      · obtain ⟨ins, e⟩ := ih (l.drop (sp l.length)) (m - sp l.length) false old (by rw [List.length_drop]; omega) (by omega) (by rw [List.length_drop]; omega) (by simp)
        rw [show (l.drop (sp l.length)).length = l.length - sp l.length by rw [List.length_drop]] at e
        have f1 : (l.take m).length = m := by rw [List.length_take]; omega
        have f2 : sp (l.take m).length = sp l.length := by rw [f1]; exact sp_mono (by omega) hm
        have f3 : root (l.take m) = node (root (l.take (sp l.length))) (root ((l.drop (sp l.length)).take (m - sp l.length))) := by
          rw [root_two (by omega), f2, List.take_take, Nat.min_eq_left (by omega), List.drop_take]
        rw [linkR_hi h2 he (by omega), rootsR, if_neg he, if_neg hk, e, f3, root_two h2]
        exact ⟨_, rfl⟩
theorem linkR_lens (d : Nat) : ∀ (l : List Str) (m : Nat) (w : Bool), l.length ≤ d → (∀ s ∈ l, s.length = 32) → 0 < m → m ≤ l.length → ∀ s ∈ linkR l m w, s.length = 32 := by
  induction d with
  | zero => intro l m w hd _ h0 hm; omega
  | succ d ih =>
    intro l m w hd hs h0 hm
    by_cases he : m = l.length
    · subst he
      rw [linkR_all]
      intro s h
      cases w with
      | true => simp at h
      | false =>
        simp at h
        subst h
        exact root_len (by intro e; subst e; simp at h0) hs
    · have h2 : 2 ≤ l.length := by omega
      have s1 := sp_lt h2
      have s0 := sp_pos l.length
      have ht : ∀ s ∈ l.take (sp l.length), s.length = 32 := fun s h => hs s (List.mem_of_mem_take h)
      have hd' : ∀ s ∈ l.drop (sp l.length), s.length = 32 := fun s h => hs s (List.mem_of_mem_drop h)
      by_cases hk : m ≤ sp l.length
      · rw [linkR_lo h2 he hk]
        intro s h
        rcases List.mem_cons.1 h with rfl | h
        · exact root_len (drop_ne h2) hd'
        · exact ih _ _ _ (by rw [List.length_take]; omega) ht h0 (by rw [List.length_take]; omega) s h
      · rw [linkR_hi h2 he (by omega)]
        intro s h
        rcases List.mem_cons.1 h with rfl | h
        · exact root_len (take_ne h2) ht
        · exact ih _ _ _ (by rw [List.length_drop]; omega) hd' (by omega) (by rw [List.length_drop]; omega) s h
theorem linkR_length (d : Nat) : ∀ (l : List Str) (m : Nat) (w : Bool), l.length ≤ d → (linkR l m w).length ≤ l.length + 1 := by
  induction d with
  | zero =>
    intro l m w hd
    rw [linkR]
    split
    · split <;> simp
    · rw [dif_pos (by omega)]; simp
  | succ d ih =>
    intro l m w hd
    by_cases he : m = l.length
    · subst he
      rw [linkR_all]
      split <;> simp
    · by_cases h2 : 2 ≤ l.length
      · have s1 := sp_lt h2
        have s0 := sp_pos l.length
        by_cases hk : m ≤ sp l.length
        · have := ih (l.take (sp l.length)) m w (by rw [List.length_take]; omega)
          rw [linkR_lo h2 he hk, List.length_cons]
          rw [List.length_take] at this
          omega
        · have := ih (l.drop (sp l.length)) (m - sp l.length) false (by rw [List.length_drop]; omega)
          rw [linkR_hi h2 he (by omega), List.length_cons]
          rw [List.length_drop] at this
          omega
      · rw [linkR, if_neg he, dif_pos (by omega)]; simp
/-- What is accepted for the roots of two lists shows that the first is a beginning of the second, without a clash. -/
theorem grows (d : Nat) (L : List Str) (hL : NoClash L) : ∀ (a b : List Str) (old : Str) (t ins : List Str) (mark : Bool), b.length ≤ d → 0 < a.length → a.length ≤ b.length → (∀ s ∈ a, s.length = 32) → (∀ s ∈ b, s.length = 32) → (∀ s ∈ t, s.length = 32) → old.length = 32 →
    (mark = true → old = root a) → (∀ s ∈ inputs a, s ∈ L) → (∀ s ∈ inputs b, s ∈ L) → (∀ s ∈ ins, s ∈ L) → rootsR old a.length b.length t mark = some (root a, root b, ins) → a = b.take a.length := by
  induction d with
  | zero => intro a b old t ins mark hd h0 hm; omega
  | succ d ih =>
    intro a b old t ins mark hd h0 hm ha hb ht hold ho h1 h2 h3 hr
    by_cases he : a.length = b.length
    · have hab : root a = root b := by
        match t, hr with
        | [], hr =>
          unfold rootsR at hr
          split at hr
          · injection hr with hr
            injection hr with e1 e2
            injection e2 with e2 _
            rw [← e1, ← e2]
          · cases hr
        | q :: t, hr =>
          rw [rootsR, if_pos he] at hr
          split at hr
          · injection hr with hr
            injection hr with e1 e2
            injection e2 with e2 _
            rw [← e1, ← e2]
          · cases hr
      have := root_inj _ L hL a b (Nat.le_refl _) he ha hb h1 h2 hab
      rw [he, List.take_length]
      exact this
    · have l2 : 2 ≤ b.length := by omega
      have s1 := sp_lt l2
      have s0 := sp_pos b.length
      have tb : ∀ s ∈ b.take (sp b.length), s.length = 32 := fun s h => hb s (List.mem_of_mem_take h)
      have db : ∀ s ∈ b.drop (sp b.length), s.length = 32 := fun s h => hb s (List.mem_of_mem_drop h)
      have e1 : (b.take (sp b.length)).length = sp b.length := by rw [List.length_take]; omega
      have e2 : (b.drop (sp b.length)).length = b.length - sp b.length := by rw [List.length_drop]
      rw [inputs_two l2] at h2
      have hpb := h2 (pre (root (b.take (sp b.length))) (root (b.drop (sp b.length)))) (by simp)
      match t, hr with
      | [], hr =>
        rw [rootsR, if_neg (by simp [he])] at hr
        cases hr
      | q :: t, hr =>
        rw [rootsR, if_neg he] at hr
        have ht' : ∀ s ∈ t, s.length = 32 := fun s h => ht s (by simp [h])
        have hq := ht q (by simp)
        by_cases hk : a.length ≤ sp b.length
        · rw [if_pos hk] at hr
          obtain ⟨⟨r1, r2, r3⟩, hr', e⟩ := Option.map_eq_some_iff.1 hr
          rw [root_two l2] at e
          injection e with e3 e4
          injection e4 with e4 e5
          simp only at e3 e4 e5
          subst e5
          have hl := rootsR_len hold _ _ _ _ _ ht' hr'
          obtain ⟨g1, g2⟩ := node_inj hL (by rw [hl.2, root_len (take_ne l2) tb]) (h3 _ (by simp)) hpb e4
          subst e3 g1
          have := ih a (b.take (sp b.length)) old t r3 mark (by omega) h0 (by omega) ha tb ht' hold ho h1 (fun s h => h2 s (by simp [h])) (fun s h => h3 s (by simp [h])) (by rw [e1]; exact hr')
          rw [List.take_take, Nat.min_eq_left hk] at this
          exact this
        · rw [if_neg hk] at hr
          obtain ⟨⟨r1, r2, r3⟩, hr', e⟩ := Option.map_eq_some_iff.1 hr
          have la : 2 ≤ a.length := by omega
          have hs : sp a.length = sp b.length := sp_mono (by omega) hm
          have sa := sp_lt la
          have ta : ∀ s ∈ a.take (sp a.length), s.length = 32 := fun s h => ha s (List.mem_of_mem_take h)
          have da : ∀ s ∈ a.drop (sp a.length), s.length = 32 := fun s h => ha s (List.mem_of_mem_drop h)
          rw [inputs_two la] at h1
          have hpa := h1 (pre (root (a.take (sp a.length))) (root (a.drop (sp a.length)))) (by simp)
          rw [root_two l2, root_two la] at e
          injection e with e3 e4
          injection e4 with e4 e5
          simp only at e3 e4 e5
          subst e5
          obtain ⟨g1, g2⟩ := node_inj hL (by rw [hq, root_len (take_ne la) ta]) (h3 _ (by simp)) hpa e3
          obtain ⟨g3, g4⟩ := node_inj hL (by rw [hq, root_len (take_ne l2) tb]) (h3 _ (by simp)) hpb e4
          have f1 := root_inj _ L hL _ _ (Nat.le_refl _) (by rw [List.length_take, List.length_take]; omega) ta tb (fun s h => h1 s (by simp [h])) (fun s h => h2 s (by simp [h])) (g1.symm.trans g3)
          subst g2 g4
          have f2 := ih (a.drop (sp a.length)) (b.drop (sp b.length)) old t r3 false (by omega) (by rw [List.length_drop]; omega) (by rw [List.length_drop, List.length_drop]; omega) da db ht' hold (by simp) (fun s h => h1 s (by simp [h])) (fun s h => h2 s (by simp [h])) (fun s h => h3 s (by simp [h])) (by rw [e2, List.length_drop, hs]; rw [hs] at hr'; exact hr')
          rw [hs] at f1 f2
          have f3 : (b.take a.length).take (sp b.length) = b.take (sp b.length) := by rw [List.take_take, Nat.min_eq_left (by omega)]
          rw [List.length_drop] at f2
          try rw [hs] at f2
          have x := List.take_append_drop (sp b.length) a
          rw [f1, f2, ← List.drop_take, ← f3, List.take_append_drop] at x
          exact x.symm
end Mk
end Go.Proofs.YtfemgakfckabhaaDoor
