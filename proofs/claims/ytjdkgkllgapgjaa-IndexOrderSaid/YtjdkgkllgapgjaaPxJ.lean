/- Which states of the program's index tell a plain one; what becomes of that where an entry is unset or set. -/
import Derived.Test.YtjdkgkllgapgjaaPxI
namespace Go.Proofs.Ytjdkgkllgapgjaa.Px
open Go.RowKit Go.Lib Go.Maps
open Re (Rec Key new_cells rcA isL below_drewN key_total)
open Ix
open Sp
set_option linter.unusedVariables false
set_option linter.unusedSimpArgs false
set_option maxRecDepth 100000

def cnt0 (n : Nat) : Option Int := if n = 0 then none else some (n : Int)
theorem cnt0_get (n : Nat) : (cnt0 n).getD 0 = (n : Int) := by
  unfold cnt0
  split
  · rename_i h; rw [h]; rfl
  · rfl
def cntK (S : List Std) (k : Key) : Nat := S.countP fun a => decide (a.key = k)
def cntS (S : List Std) (s : Int) (k : Key) : Nat := S.countP fun a => decide (a.s = s) && decide (a.key = k)
def slots (S : List Std) (s : Int) : List Int := (S.filter fun a => decide (a.s = s)).map Std.p
def nL (L : List Nw) (s : Int) : Nat := L.countP fun a => decide (a.s = s)
def lL (L : List Nw) (s : Int) : Nat := L.countP fun a => decide (a.s = s) && a.b
def zL (L : List Nw) (s : Int) : Int := ((L.filter fun a => decide (a.s = s) && a.b).map Nw.z).sum
/-- What the state tells of the newest ones. -/
structure Ent (t : St) (L : List Nw) : Prop where
  nw : ∀ k, t.nw k = L.find? fun a => decide (a.key = k)
  nn : ∀ s, (t.q s).isSome = true → t.nn s = nL L s
  nl : ∀ s, (t.q s).isSome = true → t.nl s = lL L s
  nz : ∀ s, (t.q s).isSome = true → t.nz s = zL L s
  lv : t.lv = (L.countP Nw.b : Nat)
/-- What it tells of where records stand; of the segments in ex only that they are there. -/
structure Stn (t : St) (S : List Std) (ex : Int → Prop) : Prop where
  fp : ∀ s p, I64 s → I64 p → t.fp (locK s p) = (S.find? (isAt s p)).map fun a => .string a.i
  fpn : ∀ l, t.fp l ≠ none → ∃ a ∈ S, l = locK a.s a.p
  rg : ∀ a ∈ S, I64 a.s ∧ I64 a.p
  q : ∀ s, ¬ ex s → ((t.q s).isSome = true ↔ ∃ a ∈ S, a.s = s)
  qx : ∀ s, ex s → (t.q s).isSome = true
  sl : ∀ s, ¬ ex s → (t.q s).isSome = true → t.sl s = slots S s
  sc : ∀ s k, ¬ ex s → (t.q s).isSome = true → t.sc s k = cnt0 (cntS S s k)
  fc : ∀ k, t.fc k = cnt0 (cntK S k)
theorem nL_perm {L L' : List Nw} (h : L.Perm L') (s : Int) : nL L s = nL L' s := h.countP_eq _
theorem lL_perm {L L' : List Nw} (h : L.Perm L') (s : Int) : lL L s = lL L' s := h.countP_eq _
theorem sum_perm {l l' : List Int} (h : l.Perm l') : l.sum = l'.sum := by
  induction h with
  | nil => rfl
  | cons x _ ih => rw [List.sum_cons, List.sum_cons, ih]
  | swap x y l => simp only [List.sum_cons]; omega
  | trans _ _ h1 h2 => exact h1.trans h2
theorem zL_perm {L L' : List Nw} (h : L.Perm L') (s : Int) : zL L s = zL L' s := sum_perm ((h.filter _).map _)
theorem nL_cons (a : Nw) (L : List Nw) (s : Int) : (nL (a :: L) s : Int) = nL L s + if s = a.s then 1 else 0 := by
  unfold nL
  rw [List.countP_cons]
  by_cases h : a.s = s
  · simp [h]
  · rw [if_neg (by simpa using h), if_neg fun e => h e.symm]; simp
theorem lL_cons (a : Nw) (L : List Nw) (s : Int) : (lL (a :: L) s : Int) = lL L s + if s = a.s ∧ a.b = true then 1 else 0 := by
  unfold lL
  rw [List.countP_cons]
  by_cases h : a.s = s
  · by_cases hb : a.b = true
    · simp [h, hb]
    · simp [h, hb]
  · rw [if_neg (by simp [h]), if_neg fun e => h e.1.symm]; simp
theorem zL_cons (a : Nw) (L : List Nw) (s : Int) : zL (a :: L) s = zL L s + if s = a.s ∧ a.b = true then a.z else 0 := by
  unfold zL
  rw [List.filter_cons]
  by_cases h : a.s = s
  · by_cases hb : a.b = true
    · simp [h, hb]; omega
    · simp [h, hb]
  · rw [if_neg (by simp [h]), if_neg fun e => h e.1.symm]; simp
/-- An entry less, or more: what is reckoned. -/
theorem Ent.reck {t : St} {L L' : List Nw} (h : Ent t L) (a : Nw) (σ : Int) (t' : St) (ht : t' = reckT t a σ) (hq : (t.q a.s).isSome = true)
    (h1 : ∀ s, (nL L' s : Int) = nL L s + if s = a.s then σ else 0) (h2 : ∀ s, (lL L' s : Int) = lL L s + if s = a.s ∧ a.b = true then σ else 0)
    (h3 : ∀ s, zL L' s = zL L s + if s = a.s ∧ a.b = true then σ * a.z else 0) (h4 : ((L'.countP Nw.b : Nat) : Int) = (L.countP Nw.b : Nat) + if a.b = true then σ else 0) :
    (∀ s, (t'.q s).isSome = true → t'.nn s = nL L' s) ∧ (∀ s, (t'.q s).isSome = true → t'.nl s = lL L' s) ∧ (∀ s, (t'.q s).isSome = true → t'.nz s = zL L' s) ∧ t'.lv = (L'.countP Nw.b : Nat) := by
  subst ht
  have hqq : (reckT t a σ).q = t.q := (reck_g t a σ).2.2.1
  rw [hqq]
  have hn : ∀ s, (t.q s).isSome = true → up t.nn a.s (t.nn a.s + σ) s = nL L' s := fun s hs => by
    rw [h1]
    by_cases e : s = a.s
    · subst e; rw [up_at, if_pos rfl, h.nn _ hs]
    · rw [up_ne e, if_neg e, h.nn _ hs]; omega
  unfold reckT
  by_cases hb : a.b = true
  · simp only [if_pos hb]
    refine ⟨hn, fun s hs => ?_, fun s hs => ?_, ?_⟩
    · show up t.nl a.s (t.nl a.s + σ) s = _
      rw [h2]
      by_cases e : s = a.s
      · subst e; rw [up_at, if_pos ⟨rfl, hb⟩, h.nl _ hs]
      · rw [up_ne e, if_neg fun e2 => e e2.1, h.nl _ hs]; omega
    · show up t.nz a.s (t.nz a.s + σ * a.z) s = _
      rw [h3]
      by_cases e : s = a.s
      · subst e; rw [up_at, if_pos ⟨rfl, hb⟩, h.nz _ hs]
      · rw [up_ne e, if_neg fun e2 => e e2.1, h.nz _ hs]; omega
    · show t.lv + σ = _
      rw [h4, if_pos hb, h.lv]
  · simp only [if_neg hb]
    refine ⟨hn, fun s hs => ?_, fun s hs => ?_, ?_⟩
    · show t.nl s = _
      rw [h2, if_neg fun e2 => hb e2.2, h.nl _ hs]; omega
    · show t.nz s = _
      rw [h3, if_neg fun e2 => hb e2.2, h.nz _ hs]; omega
    · show t.lv = _
      rw [h4, if_neg hb, h.lv]; omega
def rem (k : Key) (L : List Nw) : List Nw := L.filter fun a => decide (a.key ≠ k)
theorem rem_perm {L : List Nw} (h : Up L) {a : Nw} (ha : a ∈ L) : L.Perm (a :: rem a.key L) := by
  induction L with
  | nil => cases ha
  | cons c L ih =>
    obtain ⟨h1, h2⟩ := List.pairwise_cons.1 h
    unfold rem
    rcases List.mem_cons.1 ha with rfl | ha'
    · rw [List.filter_cons_of_neg (by simp), List.filter_eq_self.2 fun x hx => by
        simp only [decide_eq_true_eq]
        intro e
        have := h1 x hx
        rw [e] at this
        exact List.lt_irrefl _ this]
    · rw [List.filter_cons_of_pos (by
        simp only [decide_eq_true_eq]
        intro e
        have := h1 a ha'
        rw [e] at this
        exact List.lt_irrefl _ this)]
      exact ((ih h2 ha').cons c).trans (List.Perm.swap a c _)
theorem rem_up {L : List Nw} (h : Up L) (k : Key) : Up (rem k L) := List.Pairwise.filter _ h
theorem rem_none {L : List Nw} {k : Key} (h : ∀ a ∈ L, a.key ≠ k) : rem k L = L := List.filter_eq_self.2 fun a ha => by simpa using h a ha
theorem find_rem (L : List Nw) (k x : Key) : (rem k L).find? (fun a => decide (a.key = x)) = if x = k then none else L.find? fun a => decide (a.key = x) := by
  unfold rem
  by_cases e : x = k
  · subst e
    rw [if_pos rfl, List.find?_eq_none]
    intro a ha
    simpa using (List.mem_filter.1 ha).2
  · rw [if_neg e, List.find?_filter]
    congr 1
    funext a
    by_cases h : a.key = x
    · simp [h, e]
    · simp [h]
theorem find_set {L : List Nw} (h : Up L) (e : Nw) (x : Key) : (setL e L).find? (fun a => decide (a.key = x)) = if x = e.key then some e else L.find? fun a => decide (a.key = x) := by
  have hs := h.set e
  by_cases hx : x = e.key
  · subst hx
    rw [if_pos rfl]
    exact fnd_at (x := ⟨[], setL e L⟩) hs (mem_set.2 (.inl rfl))
  · rw [if_neg hx]
    cases hf : L.find? fun a => decide (a.key = x) with
    | none =>
      have h1 := fnd_none (x := ⟨[], L⟩).1 hf
      refine fnd_none (x := ⟨[], setL e L⟩).2 fun q hq => ?_
      rcases mem_set.1 hq with rfl | hq
      · exact fun e2 => hx e2.symm
      · exact h1 q hq.1
    | some a =>
      obtain ⟨h1, h2⟩ := fnd_some (x := ⟨[], L⟩) hf
      have := fnd_at (x := ⟨[], setL e L⟩) hs (q := a) (mem_set.2 (.inr ⟨h1, fun e2 => hx (by rw [← h2, e2])⟩))
      rw [h2] at this
      exact this
theorem set_perm {L : List Nw} (h : Up L) (e : Nw) : (setL e L).Perm (e :: rem e.key L) := by
  have hs := h.set e
  refine (rem_perm hs (mem_set.2 (.inl rfl))).trans (List.Perm.of_eq ?_)
  congr 1
  unfold setL rem
  rw [List.filter_append, List.filter_cons_of_neg (by simp), List.filter_filter, List.filter_filter]
  clear hs
  induction L with
  | nil => rfl
  | cons c L ih =>
    obtain ⟨h1, h2⟩ := List.pairwise_cons.1 h
    have ih := ih h2
    by_cases e1 : c.key < e.key
    · rw [List.filter_cons_of_pos (by simp [e1]; exact fun e2 => by rw [e2] at e1; exact List.lt_irrefl _ e1), List.filter_cons_of_neg (by simp; exact fun _ e3 => List.lt_irrefl _ (List.lt_trans e1 e3)), List.filter_cons_of_pos (by simp; exact fun e2 => by rw [e2] at e1; exact List.lt_irrefl _ e1), List.cons_append, ih]
    · by_cases e2 : c.key = e.key
      · rw [List.filter_cons_of_neg (by simp [e2]), List.filter_cons_of_neg (by simp [e2]), List.filter_cons_of_neg (by simp [e2])]
        exact ih
      · have e3 : e.key < c.key := key_total e1 e2
        have hz : List.filter (fun a => decide (a.key ≠ e.key) && decide (a.key < e.key)) (c :: L) = [] := List.filter_eq_nil_iff.2 fun x hx => by
          simp only [Bool.and_eq_true, decide_eq_true_eq, not_and]
          intro _ e4
          rcases List.mem_cons.1 hx with rfl | hx
          · exact e1 e4
          · exact List.lt_irrefl _ (List.lt_trans e3 (List.lt_trans (h1 x hx) e4))
        rw [hz, List.nil_append]
        refine List.filter_congr fun x hx => ?_
        have e5 : e.key < x.key := by
          rcases List.mem_cons.1 hx with rfl | hx
          · exact e3
          · exact List.lt_trans e3 (h1 x hx)
        have e6 : x.key ≠ e.key := fun e7 => by rw [e7] at e5; exact List.lt_irrefl _ e5
        simp [e5, e6]
theorem cB_cons (a : Nw) (L : List Nw) : (((a :: L).countP Nw.b : Nat) : Int) = (L.countP Nw.b : Nat) + if a.b = true then 1 else 0 := by
  rw [List.countP_cons]
  split <;> simp
theorem Ent.unset {t : St} {L : List Nw} (h : Ent t L) (hu : Up L) (k : Key) (hq : ∀ a ∈ L, (t.q a.s).isSome = true) : Ent (unsT t k) (rem k L) := by
  unfold unsT
  cases hn : t.nw k with
  | none =>
    rw [rem_none (fnd_none (x := ⟨[], L⟩).1 ((h.nw k).symm.trans hn))]
    exact h
  | some a =>
    obtain ⟨ha, hk⟩ := fnd_some (x := ⟨[], L⟩) ((h.nw k).symm.trans hn)
    subst hk
    have hp := rem_perm hu ha
    obtain ⟨q1, q2, q3, q4⟩ := h.reck a (-1) (L' := rem a.key L) _ rfl (hq a ha)
      (fun s => by rw [nL_perm hp, nL_cons]; split <;> omega) (fun s => by rw [lL_perm hp, lL_cons]; split <;> omega)
      (fun s => by rw [zL_perm hp, zL_cons]; split <;> omega) (by rw [hp.countP_eq Nw.b, cB_cons]; split <;> omega)
    refine ⟨fun x => ?_, q1, q2, q3, q4⟩
    show up (reckT t a (-1)).nw a.key none x = _
    rw [(reck_g t a (-1)).2.2.2.1, find_rem]
    unfold up
    rw [h.nw]
theorem Ent.add {t : St} {L : List Nw} {e : Nw} (h : Ent t (rem e.key L)) (hu : Up L) (hq : (t.q e.s).isSome = true) : Ent (reckT (t.nwS e.key (some e)) e 1) (setL e L) := by
  have hp := set_perm hu e
  have h' : Ent t (rem e.key L) := h
  obtain ⟨q1, q2, q3, q4⟩ := (show Ent { t with nw := t.nw } (rem e.key L) from h).reck e 1 (L' := setL e L) (reckT t e 1) rfl hq
    (fun s => by rw [nL_perm hp, nL_cons]) (fun s => by rw [lL_perm hp, lL_cons])
    (fun s => by rw [zL_perm hp, zL_cons]; split <;> omega) (by rw [hp.countP_eq Nw.b, cB_cons])
  have hc : ∀ s, (reckT (t.nwS e.key (some e)) e 1).nn s = (reckT t e 1).nn s ∧ (reckT (t.nwS e.key (some e)) e 1).nl s = (reckT t e 1).nl s ∧ (reckT (t.nwS e.key (some e)) e 1).nz s = (reckT t e 1).nz s ∧ (reckT (t.nwS e.key (some e)) e 1).lv = (reckT t e 1).lv ∧ (reckT (t.nwS e.key (some e)) e 1).q = (reckT t e 1).q := fun s => by
    unfold reckT
    split <;> exact ⟨rfl, rfl, rfl, rfl, rfl⟩
  refine ⟨fun x => ?_, fun s hs => ?_, fun s hs => ?_, fun s hs => ?_, ?_⟩
  · rw [(reck_g _ e 1).2.2.2.1]
    show up t.nw e.key (some e) x = _
    rw [find_set hu]
    unfold up
    by_cases hx : x = e.key
    · rw [if_pos hx, if_pos hx]
    · rw [if_neg hx, if_neg hx, h.nw, find_rem, if_neg hx]
  · rw [(hc s).1]; rw [(hc s).2.2.2.2] at hs; exact q1 s hs
  · rw [(hc s).2.1]; rw [(hc s).2.2.2.2] at hs; exact q2 s hs
  · rw [(hc s).2.2.1]; rw [(hc s).2.2.2.2] at hs; exact q3 s hs
  · rw [(hc 0).2.2.2.1]; exact q4
end Go.Proofs.Ytjdkgkllgapgjaa.Px
