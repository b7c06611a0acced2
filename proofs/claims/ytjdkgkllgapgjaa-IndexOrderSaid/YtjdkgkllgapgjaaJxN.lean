/- The plain side of the statements' filled index: where records stand, and which are the newest. -/
import Derived.Test.YtjdkgkllgapgjaaJxL
namespace Go.Proofs.Ytjdkgkllgapgjaa.Ix
open Go.RowKit Go.Lib
open Re (Rec Key isL rcA RR RC cut80 cutR ROk)
open Sp
set_option linter.unusedVariables false
set_option linter.unusedSimpArgs false
set_option maxRecDepth 100000

theorem fnd_set {L S S' : _} (h : Up L) (e : Nw) (k : Key) : fndX ⟨S, setL e L⟩ k = if k = e.key then some e else fndX ⟨S', L⟩ k := by
  have hs : Up (setL e L) := h.set e
  by_cases hx : k = e.key
  · subst hx
    rw [if_pos rfl]
    exact fnd_at (x := ⟨S, setL e L⟩) hs (mem_set.2 (.inl rfl))
  · rw [if_neg hx]
    cases hf : fndX ⟨S', L⟩ k with
    | none =>
      have h1 := fnd_none.1 hf
      refine fnd_none.2 fun q hq => ?_
      rcases mem_set.1 hq with rfl | hq
      · exact fun e2 => hx e2.symm
      · exact h1 q hq.1
    | some a =>
      obtain ⟨h1, h2⟩ := fnd_some hf
      have := fnd_at (x := ⟨S, setL e L⟩) hs (q := a) (mem_set.2 (.inr ⟨h1, fun e2 => hx (by rw [← h2, e2])⟩))
      rw [h2] at this
      exact this
theorem fl_place (L : List Rec) : ∀ q, ∀ a ∈ (flN L q).S, ∃ j, j < q ∧ a.s = (j : Int) / 4 ∧ a.p = (j : Int) % 4 ∧ ∃ r, L[j]? = some r ∧ isL r = true ∧ a.i = cut80 r.i
  | 0, a, ha => by cases ha
  | q + 1, a, ha => by
    simp only [flN] at ha
    cases hr : L[q]? with
    | none =>
      rw [hr] at ha
      obtain ⟨j, h1, h2⟩ := fl_place L q a ha
      exact ⟨j, by omega, h2⟩
    | some r =>
      rw [hr] at ha
      simp only [addX] at ha
      split at ha
      · rename_i hm
        rcases List.mem_append.1 ha with ha | ha
        · obtain ⟨j, h1, h2⟩ := fl_place L q a ha
          exact ⟨j, by omega, h2⟩
        · simp only [List.mem_singleton] at ha
          subst ha
          simp only [mayX, Bool.and_eq_true] at hm
          exact ⟨q, by omega, rfl, rfl, r, hr, hm.1, rfl⟩
      · obtain ⟨j, h1, h2⟩ := fl_place L q a ha
        exact ⟨j, by omega, h2⟩
theorem fl_vac (L : List Rec) (q : Nat) : atX (flN L q) ((q : Int) / 4) ((q : Int) % 4) = none := by
  refine at_none.2 fun a ha ⟨e1, e2⟩ => ?_
  obtain ⟨j, hj, h1, h2, _⟩ := fl_place L q a ha
  omega
theorem fl_yes {L : List Rec} {q : Nat} {r : Rec} (hr : L[q]? = some r) (hl : isL r = true) :
    flN L (q + 1) = ⟨(flN L q).S ++ [⟨cut80 r.i, (q : Int) / 4, (q : Int) % 4⟩], if older (flN L q) (cutR r) then (flN L q).L else setL (entOf (cutR r) ((q : Int) / 4) ((q : Int) % 4)) (flN L q).L⟩ := by
  simp only [flN, hr, addX]
  have hm : mayX (flN L q) (cutR r) ((q : Int) / 4) ((q : Int) % 4) = true := by
    unfold mayX
    rw [fl_vac]
    have : isL (cutR r) = true := hl
    rw [this]
    rfl
  rw [if_pos hm]
  rfl
theorem fl_no {L : List Rec} {q : Nat} {r : Rec} (hr : L[q]? = some r) (hl : isL r = false) : flN L (q + 1) = flN L q := by
  simp only [flN, hr, addX]
  have hm : mayX (flN L q) (cutR r) ((q : Int) / 4) ((q : Int) % 4) = false := by
    unfold mayX
    have : isL (cutR r) = false := hl
    rw [this]
    rfl
  rw [if_neg (by rw [hm]; decide)]
/-- The last one of those of an id with the greatest version, and how many there are. -/
def bestN (L : List Rec) (k : Key) : Nat → Option Nat
  | 0 => none
  | q + 1 => match L[q]? with
    | some r => if isL r = true ∧ (cutR r).key = k then
        (match bestN L k q with
        | some j => (match L[j]? with
          | some b => if b.v ≤ r.v then some q else some j
          | none => some q)
        | none => some q) else bestN L k q
    | none => bestN L k q
def manyN (L : List Rec) (k : Key) : Nat → Nat
  | 0 => 0
  | q + 1 => match L[q]? with
    | some r => if isL r = true ∧ (cutR r).key = k then manyN L k q + 1 else manyN L k q
    | none => manyN L k q
theorem many_le (L : List Rec) (k : Key) : ∀ q, manyN L k q ≤ q
  | 0 => Nat.le_refl _
  | q + 1 => by
    have := many_le L k q
    unfold manyN
    cases L[q]? with
    | none => simp only; omega
    | some r => simp only; split <;> omega
theorem best_lt (L : List Rec) (k : Key) : ∀ q j, bestN L k q = some j → j < q ∧ ∃ b, L[j]? = some b ∧ isL b = true ∧ (cutR b).key = k
  | 0, j, h => by cases h
  | q + 1, j, h => by
    unfold bestN at h
    cases hr : L[q]? with
    | none =>
      rw [hr] at h
      obtain ⟨h1, h2⟩ := best_lt L k q j h
      exact ⟨by omega, h2⟩
    | some r =>
      rw [hr] at h
      simp only at h
      by_cases hc : isL r = true ∧ (cutR r).key = k
      · rw [if_pos hc] at h
        cases hb : bestN L k q with
        | none =>
          rw [hb] at h
          simp only at h
          injection h with h
          subst h
          exact ⟨by omega, r, hr, hc⟩
        | some i =>
          rw [hb] at h
          simp only at h
          obtain ⟨h1, b, h2, h3⟩ := best_lt L k q i hb
          rw [h2] at h
          simp only at h
          by_cases hv : b.v ≤ r.v
          · rw [if_pos hv] at h
            injection h with h
            subst h
            exact ⟨by omega, r, hr, hc⟩
          · rw [if_neg hv] at h
            injection h with h
            subst h
            exact ⟨by omega, b, h2, h3⟩
      · rw [if_neg hc] at h
        obtain ⟨h1, h2⟩ := best_lt L k q j h
        exact ⟨by omega, h2⟩
def entN (L : List Rec) (o : Option Nat) : Option Nw := o.bind fun j => (L[j]?).map fun b => entOf (cutR b) ((j : Int) / 4) ((j : Int) % 4)
theorem best_is {L : List Rec} (hL : ∀ r ∈ L, ROk r) (k : Key) : ∀ q, q ≤ 100 → fndX (flN L q) k = entN L (bestN L k q) ∧ othX (flN L q) k (-1) = manyN L k q
  | 0, _ => ⟨rfl, rfl⟩
  | q + 1, hq => by
    obtain ⟨h1, h2⟩ := best_is hL k q (by omega)
    have hg := (fl_good hL q (by omega)).1
    cases hr : L[q]? with
    | none =>
      have e1 : flN L (q + 1) = flN L q := by simp only [flN, hr]
      rw [e1]
      unfold bestN manyN
      rw [hr]
      exact ⟨h1, h2⟩
    | some r =>
      by_cases hl : isL r = true
      · rw [fl_yes hr hl]
        have hoth : othX ⟨(flN L q).S ++ [⟨cut80 r.i, (q : Int) / 4, (q : Int) % 4⟩], if older (flN L q) (cutR r) then (flN L q).L else setL (entOf (cutR r) ((q : Int) / 4) ((q : Int) % 4)) (flN L q).L⟩ k (-1) = othX (flN L q) k (-1) + if (cutR r).key = k then 1 else 0 := by
          unfold othX
          simp only
          rw [List.countP_append]
          congr 1
          have h5 : ¬ (q : Int) / 4 = -1 := by omega
          by_cases hk : (cutR r).key = k
          · rw [if_pos hk]
            have : (cut80 r.i).toList = k := hk
            simp [Std.key, this, h5]
          · rw [if_neg hk]
            have : ¬ (cut80 r.i).toList = k := hk
            simp [Std.key, this]
        rw [hoth, h2]
        by_cases hk : (cutR r).key = k
        · have hc : isL r = true ∧ (cutR r).key = k := ⟨hl, hk⟩
          have hm : manyN L k (q + 1) = manyN L k q + 1 := by rw [manyN, hr]; simp only; rw [if_pos hc]
          rw [hm, if_pos hk]
          refine ⟨?_, rfl⟩
          have hself : ∀ S, fndX ⟨S, setL (entOf (cutR r) ((q : Int) / 4) ((q : Int) % 4)) (flN L q).L⟩ k = some (entOf (cutR r) ((q : Int) / 4) ((q : Int) % 4)) := fun S => by
            rw [fnd_set (S' := []) hg.o]
            exact if_pos hk.symm
          have hent : entN L (some q) = some (entOf (cutR r) ((q : Int) / 4) ((q : Int) % 4)) := by
            unfold entN
            rw [Option.bind_some, hr]
            rfl
          cases hb : bestN L k q with
          | none =>
            rw [hb] at h1
            have hf : fndX (flN L q) k = none := h1
            have ho : older (flN L q) (cutR r) = false := by unfold older; rw [hk, hf]
            have hbb : bestN L k (q + 1) = some q := by rw [bestN, hr]; simp only; rw [if_pos hc, hb]
            rw [hbb, hent, ho, if_neg (by decide), hself]
          | some j =>
            obtain ⟨hj, b, hbj, _⟩ := best_lt L k q j hb
            rw [hb] at h1
            have hf : fndX (flN L q) k = some (entOf (cutR b) ((j : Int) / 4) ((j : Int) % 4)) := by
              rw [h1]
              unfold entN
              rw [Option.bind_some, hbj]
              rfl
            have ho : older (flN L q) (cutR r) = decide (r.v < b.v) := by unfold older; rw [hk, hf]; rfl
            by_cases hv : b.v ≤ r.v
            · have hbb : bestN L k (q + 1) = some q := by rw [bestN, hr]; simp only; rw [if_pos hc, hb]; simp only; rw [hbj]; simp only; rw [if_pos hv]
              rw [hbb, hent, ho, if_neg (by simpa using hv), hself]
            · have hbb : bestN L k (q + 1) = some j := by rw [bestN, hr]; simp only; rw [if_pos hc, hb]; simp only; rw [hbj]; simp only; rw [if_neg hv]
              rw [hbb, ho, if_pos (by simpa using hv), ← h1]
              rfl
        · have hc : ¬ (isL r = true ∧ (cutR r).key = k) := fun h => hk h.2
          have hm : manyN L k (q + 1) = manyN L k q := by rw [manyN, hr]; simp only; rw [if_neg hc]
          have hbb : bestN L k (q + 1) = bestN L k q := by rw [bestN, hr]; simp only; rw [if_neg hc]
          rw [hm, hbb, if_neg hk, ← h1]
          refine ⟨?_, rfl⟩
          split
          · rfl
          · rw [fnd_set (S' := (flN L q).S) hg.o, if_neg fun e => hk e.symm]
      · have hl' : isL r = false := by simpa using hl
        have hc : ¬ (isL r = true ∧ (cutR r).key = k) := fun h => hl h.1
        rw [fl_no hr hl']
        have hm : manyN L k (q + 1) = manyN L k q := by rw [manyN, hr]; simp only; rw [if_neg hc]
        have hbb : bestN L k (q + 1) = bestN L k q := by rw [bestN, hr]; simp only; rw [if_neg hc]
        rw [hm, hbb]
        exact ⟨h1, h2⟩
def bz (o : Option Nat) : Int := match o with
  | some j => (j : Int)
  | none => -1
end Go.Proofs.Ytjdkgkllgapgjaa.Ix
