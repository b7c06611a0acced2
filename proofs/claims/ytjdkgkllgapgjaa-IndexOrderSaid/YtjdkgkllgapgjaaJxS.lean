/- The plain side of IndexOrder: records that are added in one order, and in the other. -/
import Derived.Test.YtjdkgkllgapgjaaJxN
namespace Go.Proofs.Ytjdkgkllgapgjaa.Ix
open Go.RowKit Go.Lib
open Re (Rec Key isL rcA RR RC cut80 cutR ROk)
open Sp
set_option linter.unusedVariables false
set_option linter.unusedSimpArgs false
set_option maxRecDepth 100000

theorem rev_ind {motive : List Nat → Prop} (nil : motive []) (append_singleton : ∀ (l : List Nat) (j : Nat), motive l → motive (l ++ [j])) (l : List Nat) : motive l := by
  have h : ∀ r : List Nat, motive r.reverse := by
    intro r
    induction r with
    | nil => exact nil
    | cons a r ih =>
      rw [List.reverse_cons]
      exact append_singleton _ _ ih
  have h2 := h l.reverse
  rwa [List.reverse_reverse] at h2
/-- One step of either course: the record number j, at its own place. -/
def stepN (L : List Rec) (x : Idx) (j : Nat) : Idx := match L[j]? with
  | some r => addX x (cutR r) ((j : Int) / 4) ((j : Int) % 4)
  | none => x
/-- Those with these numbers have been added, in this order. -/
def addsN (L : List Rec) (l : List Nat) : Idx := l.foldl (stepN L) ⟨[], []⟩
theorem adds_succ (L : List Rec) (l : List Nat) (j : Nat) : addsN L (l ++ [j]) = stepN L (addsN L l) j := by
  unfold addsN
  rw [List.foldl_append]
  rfl
/-- No two of an id have the same version. -/
def Dis (L : List Rec) (m : Nat) : Prop := ∀ i k a b, i < m → k < i → L[i]? = some a → L[k]? = some b → (cutR b).key = (cutR a).key → b.v ≠ a.v
/-- The greatest one of an id among some. -/
structure Top (L : List Rec) (l : List Nat) (k : Key) (j : Nat) (r : Rec) : Prop where
  ii : j ∈ l
  rr : L[j]? = some r
  ll : isL r = true
  kk : (cutR r).key = k
  mm : ∀ i ∈ l, ∀ a, L[i]? = some a → isL a = true → (cutR a).key = k → a.v ≤ r.v
theorem adds_place (L : List Rec) (l : List Nat) : ∀ a ∈ (addsN L l).S, ∃ j ∈ l, a.s = (j : Int) / 4 ∧ a.p = (j : Int) % 4 := by
  induction l using rev_ind with
  | nil => intro a ha; cases ha
  | append_singleton l j ih =>
    intro a ha
    rw [adds_succ] at ha
    unfold stepN at ha
    cases hr : L[j]? with
    | none =>
      rw [hr] at ha
      obtain ⟨i, h1, h2⟩ := ih a ha
      exact ⟨i, List.mem_append_left _ h1, h2⟩
    | some r =>
      rw [hr] at ha
      simp only [addX] at ha
      split at ha
      · rcases List.mem_append.1 ha with ha | ha
        · obtain ⟨i, h1, h2⟩ := ih a ha
          exact ⟨i, List.mem_append_left _ h1, h2⟩
        · simp only [List.mem_singleton] at ha
          subst ha
          exact ⟨j, by simp, rfl, rfl⟩
      · obtain ⟨i, h1, h2⟩ := ih a ha
        exact ⟨i, List.mem_append_left _ h1, h2⟩
theorem adds_len (L : List Rec) (l : List Nat) : (addsN L l).S.length ≤ l.length := by
  induction l using rev_ind with
  | nil => exact Nat.le_refl _
  | append_singleton l j ih =>
    rw [adds_succ, List.length_append, List.length_singleton]
    unfold stepN
    cases L[j]? with
    | none => exact Nat.le_succ_of_le ih
    | some r => exact Nat.le_trans (add_len _ _ _ _) (by omega)
theorem adds_good {L : List Rec} (hL : ∀ r ∈ L, ROk r) (l : List Nat) (hn : l.length ≤ 100) : Good (addsN L l) := by
  induction l using rev_ind with
  | nil => exact Good.nil
  | append_singleton l j ih =>
    rw [List.length_append, List.length_singleton] at hn
    have ih := ih (by omega)
    rw [adds_succ]
    unfold stepN
    cases hr : L[j]? with
    | none => exact ih
    | some r =>
      have hk := hL r (List.mem_of_getElem? hr)
      have hrf : RF (cutR r) := ⟨hk.v, hk.d, cut80_size r.i, cut80_size r.a⟩
      exact ih.add hrf _ _ (by have := adds_len L l; omega)
/-- What is newest of an id: the greatest one. -/
theorem adds_top {L : List Rec} (hL : ∀ r ∈ L, ROk r) (k : Key) (l : List Nat) (hn : l.length ≤ 100) (hd : l.Nodup)
    (hdis : ∀ i ∈ l, ∀ j ∈ l, i ≠ j → ∀ a b, L[i]? = some a → L[j]? = some b → (cutR a).key = (cutR b).key → a.v ≠ b.v) :
    (fndX (addsN L l) k = none ∧ ∀ i ∈ l, ∀ a, L[i]? = some a → ¬ (isL a = true ∧ (cutR a).key = k)) ∨ ∃ j r, Top L l k j r ∧ fndX (addsN L l) k = some (entOf (cutR r) ((j : Int) / 4) ((j : Int) % 4)) := by
  induction l using rev_ind with
  | nil => exact .inl ⟨rfl, fun i hi => by cases hi⟩
  | append_singleton l j ih =>
    rw [List.length_append, List.length_singleton] at hn
    obtain ⟨hd1, hd2, hd3⟩ := List.nodup_append.1 hd
    have hjl : j ∉ l := fun h => hd3 j h j (by simp) rfl
    have ih := ih (by omega) hd1 (fun i hi j' hj' => hdis i (List.mem_append_left _ hi) j' (List.mem_append_left _ hj'))
    have hg := adds_good hL l (by omega)
    rw [adds_succ]
    unfold stepN
    cases hr : L[j]? with
    | none =>
      simp only
      rcases ih with ⟨h1, h2⟩ | ⟨i, r, h1, h2⟩
      · left
        refine ⟨h1, fun i hi a ha => ?_⟩
        rcases List.mem_append.1 hi with hi | hi
        · exact h2 i hi a ha
        · simp only [List.mem_singleton] at hi
          subst hi
          rw [hr] at ha
          cases ha
      · right
        refine ⟨i, r, ⟨List.mem_append_left _ h1.ii, h1.rr, h1.ll, h1.kk, fun q hq a ha hl hk => ?_⟩, h2⟩
        rcases List.mem_append.1 hq with hq | hq
        · exact h1.mm q hq a ha hl hk
        · simp only [List.mem_singleton] at hq
          subst hq
          rw [hr] at ha
          cases ha
    | some r =>
      simp only
      by_cases hl : isL r = true
      · have hm : mayX (addsN L l) (cutR r) ((j : Int) / 4) ((j : Int) % 4) = true := by
          unfold mayX
          have hv : atX (addsN L l) ((j : Int) / 4) ((j : Int) % 4) = none := at_none.2 fun a ha ⟨e1, e2⟩ => by
            obtain ⟨i, hi, h1, h2⟩ := adds_place L l a ha
            have : i = j := by omega
            subst this
            exact hjl hi
          have h2 : isL (cutR r) = true := hl
          rw [hv, h2]
          rfl
        have hadd : addX (addsN L l) (cutR r) ((j : Int) / 4) ((j : Int) % 4) = ⟨(addsN L l).S ++ [⟨(cutR r).i, (j : Int) / 4, (j : Int) % 4⟩], if older (addsN L l) (cutR r) then (addsN L l).L else setL (entOf (cutR r) ((j : Int) / 4) ((j : Int) % 4)) (addsN L l).L⟩ := by
          unfold addX
          rw [if_pos hm]
        rw [hadd]
        by_cases hk : (cutR r).key = k
        · have hself : ∀ S, fndX ⟨S, setL (entOf (cutR r) ((j : Int) / 4) ((j : Int) % 4)) (addsN L l).L⟩ k = some (entOf (cutR r) ((j : Int) / 4) ((j : Int) % 4)) := fun S => by
            rw [fnd_set (S' := []) hg.o]
            exact if_pos hk.symm
          right
          rcases ih with ⟨h1, h2⟩ | ⟨i, b, h1, h2⟩
          · have ho : older (addsN L l) (cutR r) = false := by unfold older; rw [hk, h1]
            rw [ho, if_neg (by decide)]
            refine ⟨j, r, ⟨by simp, hr, hl, hk, fun q hq a ha hla hka => ?_⟩, hself _⟩
            rcases List.mem_append.1 hq with hq | hq
            · exact absurd ⟨hla, hka⟩ (h2 q hq a ha)
            · simp only [List.mem_singleton] at hq
              subst hq
              rw [hr] at ha
              injection ha with ha
              subst ha
              exact Int.le_refl _
          · have ho : older (addsN L l) (cutR r) = decide (r.v < b.v) := by unfold older; rw [hk, h2]; rfl
            by_cases hv : r.v < b.v
            · rw [ho, if_pos (by simpa using hv)]
              refine ⟨i, b, ⟨List.mem_append_left _ h1.ii, h1.rr, h1.ll, h1.kk, fun q hq a ha hla hka => ?_⟩, h2⟩
              rcases List.mem_append.1 hq with hq | hq
              · exact h1.mm q hq a ha hla hka
              · simp only [List.mem_singleton] at hq
                subst hq
                rw [hr] at ha
                injection ha with ha
                subst ha
                omega
            · rw [ho, if_neg (by simpa using hv)]
              refine ⟨j, r, ⟨by simp, hr, hl, hk, fun q hq a ha hla hka => ?_⟩, hself _⟩
              rcases List.mem_append.1 hq with hq | hq
              · have := h1.mm q hq a ha hla hka
                omega
              · simp only [List.mem_singleton] at hq
                subst hq
                rw [hr] at ha
                injection ha with ha
                subst ha
                exact Int.le_refl _
        · have hf : fndX (⟨(addsN L l).S ++ [⟨(cutR r).i, (j : Int) / 4, (j : Int) % 4⟩], if older (addsN L l) (cutR r) then (addsN L l).L else setL (entOf (cutR r) ((j : Int) / 4) ((j : Int) % 4)) (addsN L l).L⟩ : Idx) k = fndX (addsN L l) k := by
            split
            · rfl
            · rw [fnd_set (S' := (addsN L l).S) hg.o]
              exact if_neg fun e => hk e.symm
          rw [hf]
          rcases ih with ⟨h1, h2⟩ | ⟨i, b, h1, h2⟩
          · left
            refine ⟨h1, fun q hq a ha => ?_⟩
            rcases List.mem_append.1 hq with hq | hq
            · exact h2 q hq a ha
            · simp only [List.mem_singleton] at hq
              subst hq
              rw [hr] at ha
              injection ha with ha
              subst ha
              exact fun e => hk e.2
          · right
            refine ⟨i, b, ⟨List.mem_append_left _ h1.ii, h1.rr, h1.ll, h1.kk, fun q hq a ha hla hka => ?_⟩, h2⟩
            rcases List.mem_append.1 hq with hq | hq
            · exact h1.mm q hq a ha hla hka
            · simp only [List.mem_singleton] at hq
              subst hq
              rw [hr] at ha
              injection ha with ha
              subst ha
              exact absurd hka hk
      · have hl' : isL r = false := by simpa using hl
        have hm : mayX (addsN L l) (cutR r) ((j : Int) / 4) ((j : Int) % 4) = false := by
          unfold mayX
          have h2 : isL (cutR r) = false := hl'
          rw [h2]
          rfl
        have hadd : addX (addsN L l) (cutR r) ((j : Int) / 4) ((j : Int) % 4) = addsN L l := by
          unfold addX
          rw [if_neg (by rw [hm]; decide)]
        rw [hadd]
        rcases ih with ⟨h1, h2⟩ | ⟨i, b, h1, h2⟩
        · left
          refine ⟨h1, fun q hq a ha => ?_⟩
          rcases List.mem_append.1 hq with hq | hq
          · exact h2 q hq a ha
          · simp only [List.mem_singleton] at hq
            subst hq
            rw [hr] at ha
            injection ha with ha
            subst ha
            exact fun e => hl e.1
        · right
          refine ⟨i, b, ⟨List.mem_append_left _ h1.ii, h1.rr, h1.ll, h1.kk, fun q hq a ha hla hka => ?_⟩, h2⟩
          rcases List.mem_append.1 hq with hq | hq
          · exact h1.mm q hq a ha hla hka
          · simp only [List.mem_singleton] at hq
            subst hq
            rw [hr] at ha
            injection ha with ha
            subst ha
            exact absurd hla hl
theorem adds_same {L : List Rec} (hL : ∀ r ∈ L, ROk r) {l l' : List Nat} (hn : l.length ≤ 100) (hn' : l'.length ≤ 100) (hd : l.Nodup) (hd' : l'.Nodup) (hm : ∀ i, i ∈ l ↔ i ∈ l')
    (hdis : ∀ i ∈ l, ∀ j ∈ l, i ≠ j → ∀ a b, L[i]? = some a → L[j]? = some b → (cutR a).key = (cutR b).key → a.v ≠ b.v) (k : Key) : fndX (addsN L l) k = fndX (addsN L l') k := by
  have hdis' : ∀ i ∈ l', ∀ j ∈ l', i ≠ j → ∀ a b, L[i]? = some a → L[j]? = some b → (cutR a).key = (cutR b).key → a.v ≠ b.v := fun i hi j hj => hdis i ((hm i).2 hi) j ((hm j).2 hj)
  rcases adds_top hL k l hn hd hdis with ⟨h1, h2⟩ | ⟨i, a, h1, h2⟩
  · rcases adds_top hL k l' hn' hd' hdis' with ⟨h3, h4⟩ | ⟨j, b, h3, h4⟩
    · rw [h1, h3]
    · exact absurd ⟨h3.ll, h3.kk⟩ (h2 j ((hm j).2 h3.ii) b h3.rr)
  · rcases adds_top hL k l' hn' hd' hdis' with ⟨h3, h4⟩ | ⟨j, b, h3, h4⟩
    · exact absurd ⟨h1.ll, h1.kk⟩ (h4 i ((hm i).1 h1.ii) a h1.rr)
    · rw [h2, h4]
      have e1 := h1.mm j ((hm j).2 h3.ii) b h3.rr h3.ll h3.kk
      have e2 := h3.mm i ((hm i).1 h1.ii) a h1.rr h1.ll h1.kk
      by_cases e : i = j
      · subst e
        have := h1.rr.symm.trans h3.rr
        injection this with this
        rw [this]
      · exact absurd (Int.le_antisymm e2 e1) (hdis i h1.ii j ((hm j).2 h3.ii) e a b h1.rr h3.rr (h1.kk.trans h3.kk.symm))
theorem list_same {L L' : List Nw} (h : Up L) (h' : Up L') (hf : ∀ k, fndX ⟨[], L⟩ k = fndX ⟨[], L'⟩ k) : L = L' := by
  have hmem : ∀ a, a ∈ L ↔ a ∈ L' := fun a => by
    constructor
    · intro ha
      have h1 := fnd_at (x := ⟨[], L⟩) h ha
      rw [hf] at h1
      exact (fnd_some h1).1
    · intro ha
      have h1 := fnd_at (x := ⟨[], L'⟩) h' ha
      rw [← hf] at h1
      exact (fnd_some h1).1
  induction L generalizing L' with
  | nil =>
    cases L' with
    | nil => rfl
    | cons b L' => exact absurd ((hmem b).2 (List.mem_cons_self ..)) (by simp)
  | cons a L ih =>
    cases L' with
    | nil => exact absurd ((hmem a).1 (List.mem_cons_self ..)) (by simp)
    | cons b L' =>
      obtain ⟨p1, p2⟩ := List.pairwise_cons.1 h
      obtain ⟨p3, p4⟩ := List.pairwise_cons.1 h'
      have hab : a = b := by
        rcases List.mem_cons.1 ((hmem a).1 (List.mem_cons_self ..)) with e | e
        · exact e
        · rcases List.mem_cons.1 ((hmem b).2 (List.mem_cons_self ..)) with e2 | e2
          · exact e2.symm
          · exact absurd (List.lt_trans (p1 b e2) (p3 a e)) (List.lt_irrefl _)
      subst hab
      have hm2 : ∀ c, c ∈ L ↔ c ∈ L' := fun c => by
        constructor
        · intro hc
          rcases List.mem_cons.1 ((hmem c).1 (List.mem_cons_of_mem _ hc)) with e | e
          · subst e
            exact absurd (p1 c hc) (List.lt_irrefl _)
          · exact e
        · intro hc
          rcases List.mem_cons.1 ((hmem c).2 (List.mem_cons_of_mem _ hc)) with e | e
          · subst e
            exact absurd (p3 c hc) (List.lt_irrefl _)
          · exact e
      rw [ih p2 p4 (fun k => by
        cases hfk : fndX ⟨[], L⟩ k with
        | none =>
          refine (fnd_none.2 fun q hq => ?_).symm
          exact fnd_none.1 hfk q ((hm2 q).2 hq)
        | some q =>
          obtain ⟨q1, q2⟩ := fnd_some hfk
          have := fnd_at (x := ⟨[], L'⟩) p4 ((hm2 q).1 q1)
          rw [q2] at this
          exact this.symm) hm2]
end Go.Proofs.Ytjdkgkllgapgjaa.Ix
