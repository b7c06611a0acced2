/- Plain: sorting by insertion puts the places in the order that is asked. -/
import Derived.Test.YtgepkomomjmmhaaViM
namespace Go.Proofs.Ytgepkomomjmmhaa.Vj
open Vi
set_option linter.unusedVariables false

/-- One place goes ahead of another one: its candidate is better, or as good and it stands ahead. -/
def Ah (c : Nat → Cd) (i j : Nat) : Prop := better (c j) (c i) = false ∧ (j < i → better (c i) (c j) = true)
theorem Ah.trans {c : Nat → Cd} {i j k : Nat} (h : Ah c i j) (g : Ah c j k) (hik : i ≠ k) : Ah c i k := by
  refine ⟨worse_trans g.1 h.1, fun hki => ?_⟩
  by_cases h1 : j < i
  · exact better_le (h.2 h1) g.1
  · exact le_better h.1 (g.2 (by omega))
theorem Ah.asym {c : Nat → Cd} {i j : Nat} (h : Ah c i j) (g : Ah c j i) : i = j := by
  rcases Nat.lt_trichotomy i j with h1 | h1 | h1
  · have := g.2 h1; rw [h.1] at this; cases this
  · exact h1
  · have := h.2 h1; rw [g.1] at this; cases this
/-- Two orders of the same places are one. -/
theorem ah_one {c : Nat → Cd} : ∀ (a b : List Nat), a.Nodup → b.Nodup → (∀ x, x ∈ a ↔ x ∈ b) → a.Pairwise (Ah c) → b.Pairwise (Ah c) → a = b
  | [], b, _, _, hm, _, _ => by
    cases b with
    | nil => rfl
    | cons y b => exact absurd ((hm y).2 List.mem_cons_self) (by simp)
  | x :: a, b, na, nb, hm, pa, pb => by
    cases b with
    | nil => exact absurd ((hm x).1 List.mem_cons_self) (by simp)
    | cons y b =>
      rw [List.nodup_cons] at na nb
      rw [List.pairwise_cons] at pa pb
      have hxy : x = y := by
        refine Classical.byContradiction fun hne => ?_
        have h1 : y ∈ a := by
          rcases List.mem_cons.1 ((hm y).2 List.mem_cons_self) with h | h
          · exact absurd h.symm hne
          · exact h
        have h2 : x ∈ b := by
          rcases List.mem_cons.1 ((hm x).1 List.mem_cons_self) with h | h
          · exact absurd h hne
          · exact h
        exact hne ((pa.1 y h1).asym (pb.1 x h2))
      subst hxy
      rw [ah_one a b na.2 nb.2 (fun z => ⟨fun hz => by
        rcases List.mem_cons.1 ((hm z).1 (List.mem_cons_of_mem _ hz)) with h | h
        · subst h; exact absurd hz na.1
        · exact h, fun hz => by
        rcases List.mem_cons.1 ((hm z).2 (List.mem_cons_of_mem _ hz)) with h | h
        · subst h; exact absurd hz nb.1
        · exact h⟩) pa.2 pb.2]
theorem ord_pair (n : Nat) (c : Nat → Cd) : (ord n c).Pairwise (Ah c) := by
  rw [List.pairwise_iff_getElem]
  intro i j hi hj hij
  exact (ord_is n c).up i j _ _ hij (List.getElem?_eq_getElem hi) (List.getElem?_eq_getElem hj)
/-- A row of places within the sort: the one that goes down is i, and stands at j. -/
structure Ins (n : Nat) (c : Nat → Cd) (i j : Nat) (o : List Nat) : Prop where
  len : o.length = n
  ji : j ≤ i
  il : i < n
  nd : o.Nodup
  lt : ∀ x ∈ o, x < n
  at_ : o[j]? = some i
  lo : ∀ a x : Nat, a ≤ i → a ≠ j → o[a]? = some x → x < i
  so : ∀ a b x y : Nat, a < b → b ≤ i → a ≠ j → b ≠ j → o[a]? = some x → o[b]? = some y → Ah c x y
  up : ∀ b y : Nat, j < b → b ≤ i → o[b]? = some y → Ah c i y
  re : ∀ b : Nat, i < b → b < n → o[b]? = some b
/-- Sorted as far as i. -/
structure Srt (n : Nat) (c : Nat → Cd) (i : Nat) (o : List Nat) : Prop where
  len : o.length = n
  nd : o.Nodup
  lt : ∀ x ∈ o, x < n
  lo : ∀ a x : Nat, a < i → o[a]? = some x → x < i
  so : ∀ a b x y : Nat, a < b → b < i → o[a]? = some x → o[b]? = some y → Ah c x y
  re : ∀ b : Nat, i ≤ b → b < n → o[b]? = some b
theorem Srt.start (n : Nat) (c : Nat → Cd) (i : Nat) (hi : i ≤ 1) : Srt n c i (List.range n) :=
  ⟨List.length_range, List.nodup_range, fun x hx => List.mem_range.1 hx, fun a x ha hx => by
    have hl := (List.getElem?_eq_some_iff.1 hx).1
    rw [List.length_range] at hl
    rw [List.getElem?_range hl] at hx
    injection hx with hx
    omega, fun a b x y hab hb _ _ => by omega, fun b _ hb => List.getElem?_range hb⟩
theorem Srt.ins {n : Nat} {c : Nat → Cd} {i : Nat} {o : List Nat} (h : Srt n c i o) (hi : i < n) : Ins n c i i o :=
  ⟨h.len, Nat.le_refl _, hi, h.nd, h.lt, h.re i (Nat.le_refl _) hi, fun a x ha hne hx => h.lo a x (by omega) hx, fun a b x y hab hb _ hbj hx hy => h.so a b x y hab (by omega) hx hy, fun b y h1 h2 _ => by omega, fun b h1 h2 => h.re b (by omega) h2⟩
theorem Ins.none {n : Nat} {c : Nat → Cd} {i : Nat} {o : List Nat} (h : Ins n c i 0 o) : Srt n c (i + 1) o :=
  ⟨h.len, h.nd, h.lt, fun a x ha hx => by
    by_cases h0 : a = 0
    · subst h0; have := h.at_; rw [hx] at this; injection this with this; omega
    · have := h.lo a x (by omega) h0 hx; omega, fun a b x y hab hb hx hy => by
    by_cases h0 : a = 0
    · subst h0
      have := h.at_; rw [hx] at this; injection this with this; subst this
      exact h.up b y hab (by omega) hy
    · exact h.so a b x y hab (by omega) h0 (by omega) hx hy, fun b h1 h2 => h.re b (by omega) h2⟩
theorem nodup_at {o : List Nat} (h : o.Nodup) {a b x : Nat} (ha : o[a]? = some x) (hb : o[b]? = some x) : a = b := by
  obtain ⟨ha1, ha2⟩ := List.getElem?_eq_some_iff.1 ha
  obtain ⟨hb1, hb2⟩ := List.getElem?_eq_some_iff.1 hb
  exact (List.getElem_inj h).1 (ha2.trans hb2.symm)
theorem Ins.stop {n : Nat} {c : Nat → Cd} {i j p : Nat} {o : List Nat} (h : Ins n c i (j + 1) o) (hp : o[j]? = some p) (hb : better (c i) (c p) = false) : Srt n c (i + 1) o := by
  have hpi : p < i := h.lo j p (by have := h.ji; omega) (by omega) hp
  have hap : Ah c p i := ⟨hb, fun h1 => by omega⟩
  refine ⟨h.len, h.nd, h.lt, fun a x ha hx => ?_, fun a b x y hab hbi hx hy => ?_, fun b h1 h2 => h.re b (by omega) h2⟩
  · by_cases h0 : a = j + 1
    · subst h0; have := h.at_; rw [hx] at this; injection this with this; omega
    · have := h.lo a x (by omega) h0 hx; omega
  · by_cases h0 : a = j + 1
    · subst h0
      have := h.at_; rw [hx] at this; injection this with this; subst this
      exact h.up b y hab (by omega) hy
    · by_cases h1 : b = j + 1
      · subst h1
        have := h.at_; rw [hy] at this; injection this with this; subst this
        by_cases h2 : a = j
        · subst h2; rw [hp] at hx; injection hx with hx; subst hx; exact hap
        · have k1 := h.so a j x p (by omega) (by omega) h0 (by omega) hx hp
          have k2 := h.lo a x (by omega) h0 hx
          exact k1.trans hap (by omega)
      · exact h.so a b x y hab (by omega) h0 h1 hx hy
theorem swap_at {o : List Nat} {j p i : Nat} (hp : o[j]? = some p) (hi : o[j + 1]? = some i) (a : Nat) : ((o.set (j + 1) p).set j i)[a]? = if a = j then some i else if a = j + 1 then some p else o[a]? := by
  have hj := (List.getElem?_eq_some_iff.1 hp).1
  have hj1 := (List.getElem?_eq_some_iff.1 hi).1
  by_cases h1 : a = j
  · subst h1
    rw [List.getElem?_set_self (by rw [List.length_set]; exact hj), if_pos rfl]
  · rw [List.getElem?_set_ne (by omega), if_neg h1]
    by_cases h2 : a = j + 1
    · subst h2
      rw [List.getElem?_set_self hj1, if_pos rfl]
    · rw [List.getElem?_set_ne (by omega), if_neg h2]
theorem swap_mem {o : List Nat} {j p i : Nat} (hp : o[j]? = some p) (hi : o[j + 1]? = some i) (x : Nat) (hx : x ∈ (o.set (j + 1) p).set j i) : x ∈ o := by
  obtain ⟨a, ha⟩ := List.mem_iff_getElem?.1 hx
  rw [swap_at hp hi] at ha
  split at ha
  · injection ha with ha; subst ha; exact List.mem_of_getElem? hi
  · split at ha
    · injection ha with ha; subst ha; exact List.mem_of_getElem? hp
    · exact List.mem_of_getElem? ha
theorem Ins.swap {n : Nat} {c : Nat → Cd} {i j p : Nat} {o : List Nat} (h : Ins n c i (j + 1) o) (hp : o[j]? = some p) (hb : better (c i) (c p) = true) : Ins n c i j ((o.set (j + 1) p).set j i) := by
  have hi := h.at_
  have hs := swap_at hp hi
  have hji := h.ji
  have hpi : p < i := h.lo j p (by omega) (by omega) hp
  have hap : Ah c i p := ⟨better_not hb, fun _ => hb⟩
  refine ⟨by rw [List.length_set, List.length_set]; exact h.len, by omega, h.il, ?_, fun x hx => h.lt x (swap_mem hp hi x hx), by rw [hs, if_pos rfl], fun a x ha hne hx => ?_, fun a b x y hab hbi ha hb' hx hy => ?_, fun b y hjb hbi hy => ?_, fun b h1 h2 => ?_⟩
  · rw [List.nodup_iff_pairwise_ne, List.pairwise_iff_getElem]
    intro a b ha hb' hab heq
    have k1 := hs a
    have k2 := hs b
    rw [List.getElem?_eq_getElem ha] at k1
    rw [List.getElem?_eq_getElem hb', ← heq] at k2
    generalize ((o.set (j + 1) p).set j i)[a] = z at k1 k2
    split at k1
    · rw [if_neg (by omega)] at k2
      split at k2
      · rw [k1] at k2; injection k2; omega
      · have := nodup_at h.nd (k2.symm) (k1 ▸ hi); omega
    · split at k1
      · rw [if_neg (by omega), if_neg (by omega)] at k2
        have := nodup_at h.nd (k2.symm) (k1 ▸ hp); omega
      · split at k2
        · have := nodup_at h.nd (k1.symm) (k2 ▸ hi); omega
        · split at k2
          · have := nodup_at h.nd (k1.symm) (k2 ▸ hp); omega
          · have := nodup_at h.nd k1.symm k2.symm; omega
  · rw [hs, if_neg hne] at hx
    split at hx
    · injection hx with hx; omega
    · exact h.lo a x ha (by assumption) hx
  · rw [hs, if_neg ha] at hx
    rw [hs, if_neg hb'] at hy
    split at hx
    · injection hx with hx; subst hx
      rw [if_neg (by omega)] at hy
      exact h.so j b p y (by omega) hbi (by omega) (by omega) hp hy
    · split at hy
      · injection hy with hy; subst hy
        exact h.so a j x p (by omega) (by omega) (by omega) (by omega) hx hp
      · exact h.so a b x y hab hbi (by assumption) (by assumption) hx hy
  · rw [hs, if_neg (by omega)] at hy
    split at hy
    · injection hy with hy; subst hy; exact hap
    · exact h.up b y (by omega) hbi hy
  · rw [hs, if_neg (by omega), if_neg (by omega)]
    exact h.re b h1 h2
theorem Srt.ord {n : Nat} {c : Nat → Cd} {i : Nat} {o : List Nat} (h : Srt n c i o) (hi : n ≤ i) : o = ord n c := by
  have hO := ord_is n c
  refine ah_one o (Vi.ord n c) h.nd hO.nd (fun x => ?_) ?_ (ord_pair n c)
  · have k : ∀ (a : List Nat), a.Nodup → a.length = n → (∀ x ∈ a, x < n) → ∀ x, x < n → x ∈ a := fun a ha hl hb x hx => Classical.byContradiction fun hno => by
      have h1 := all_len (n) (x :: a) (fun j hj => by
        by_cases hja : j ∈ x :: a
        · exact hja
        · exact absurd (List.Nodup.length_le_of_subset (l₁ := j :: a) (l₂ := (List.range n)) (by
            rw [List.nodup_cons]; exact ⟨fun h => hja (List.mem_cons_of_mem _ h), ha⟩) (fun z hz => by
            rcases List.mem_cons.1 hz with h | h
            · subst h; exact List.mem_range.2 hj
            · exact List.mem_range.2 (hb z h))) (by rw [List.length_cons, hl, List.length_range]; omega))
      have h2 := List.Nodup.length_le_of_subset (l₁ := x :: a) (l₂ := (List.range n)) (by
            rw [List.nodup_cons]; exact ⟨hno, ha⟩) (fun z hz => by
            rcases List.mem_cons.1 hz with h | h
            · subst h; exact List.mem_range.2 hx
            · exact List.mem_range.2 (hb z h))
      rw [List.length_cons, hl, List.length_range] at h2
      omega
    exact ⟨fun hx => k _ hO.nd hO.len hO.lt x (h.lt x hx), fun hx => k _ h.nd h.len h.lt x (hO.lt x hx)⟩
  · rw [List.pairwise_iff_getElem]
    intro a b ha hb hab
    exact h.so a b _ _ hab (by rw [h.len] at hb; omega) (List.getElem?_eq_getElem ha) (List.getElem?_eq_getElem hb)
end Go.Proofs.Ytgepkomomjmmhaa.Vj
