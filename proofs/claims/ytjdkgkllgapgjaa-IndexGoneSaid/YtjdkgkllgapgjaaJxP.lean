/- The plain side of the statements' filled index, where a segment is gone, and what its segments tell together. -/
import Derived.Test.YtjdkgkllgapgjaaJxN
namespace Go.Proofs.Ytjdkgkllgapgjaa.Ix
open Go.RowKit Go.Lib
open Re (Rec Key isL rcA RR RC cut80 cutR ROk)
open Sp
set_option linter.unusedVariables false
set_option linter.unusedSimpArgs false
set_option maxRecDepth 100000

/-- What stands: distinct places, slots 0 to 3 of segments 0 to 9. -/
structure Lay (x : Idx) : Prop where
  pl : ∀ a ∈ x.S, 0 ≤ a.s ∧ a.s < 10 ∧ 0 ≤ a.p ∧ a.p < 4
theorem fl_lay {L : List Rec} {q : Nat} (hq : q ≤ 40) : Lay (flN L q) := ⟨fun a ha => by
  obtain ⟨j, hj, h1, h2, _⟩ := fl_place L q a ha
  omega⟩
theorem Lay.kill {x : Idx} (h : Lay x) (k : Key) : Lay (killX x k) := by
  have : (killX x k).S = x.S := by
    unfold killX
    cases fndX x k with
    | none => rfl
    | some q => simp only; split <;> rfl
  exact ⟨by rw [this]; exact h.pl⟩
theorem Lay.gone {x : Idx} (h : Lay x) (s : Int) : Lay (goneX x s) := ⟨fun a ha => h.pl a (List.mem_filter.1 ha).1⟩
theorem nodup_le {α : Type} [DecidableEq α] : ∀ {l m : List α}, l.Nodup → (∀ x ∈ l, x ∈ m) → l.length ≤ m.length
  | [], m, _, _ => Nat.zero_le _
  | a :: l, m, hn, hs => by
    obtain ⟨h1, h2⟩ := List.nodup_cons.1 hn
    have h3 := nodup_le (m := m.erase a) h2 (fun x hx => (List.mem_erase_of_ne (fun e => h1 (by rw [← e]; exact hx))).2 (hs x (List.mem_cons_of_mem _ hx)))
    have h4 := List.length_erase_of_mem (hs a (List.mem_cons_self ..))
    have h5 : 0 < m.length := List.length_pos_of_mem (hs a (List.mem_cons_self ..))
    rw [List.length_cons]
    omega
/-- How many of the first slots of a segment are taken. -/
def takenN (x : Idx) (s : Int) : Nat → Nat
  | 0 => 0
  | q + 1 => takenN x s q + if (atX x s (q : Int)).isSome then 1 else 0
theorem taken_is {x : Idx} (hG : Good x) (s : Int) : ∀ q, takenN x s q = x.S.countP fun a => decide (a.s = s) && (decide (0 ≤ a.p) && decide (a.p < (q : Int)))
  | 0 => by
    refine (List.countP_eq_zero.2 fun a ha => ?_).symm
    simp only [Bool.and_eq_true, decide_eq_true_eq, not_and]
    omega
  | q + 1 => by
    rw [takenN, taken_is hG s q]
    have hu := hG.u
    have key : ∀ l : List Std, (l.Pairwise fun a b => ¬ (a.s = b.s ∧ a.p = b.p)) → (l.countP fun a => decide (a.s = s) && (decide (0 ≤ a.p) && decide (a.p < ((q + 1 : Nat) : Int)))) = (l.countP fun a => decide (a.s = s) && (decide (0 ≤ a.p) && decide (a.p < (q : Int)))) + if (l.find? (isAt s (q : Int))).isSome then 1 else 0 := by
      intro l
      induction l with
      | nil => intro _; rfl
      | cons a l ih =>
        intro hl
        obtain ⟨h1, h2⟩ := List.pairwise_cons.1 hl
        have ih := ih h2
        rw [List.countP_cons, List.countP_cons, List.find?_cons, ih]
        by_cases hs : a.s = s
        · by_cases hp : a.p = (q : Int)
          · have hno : l.find? (isAt s (q : Int)) = none := List.find?_eq_none.2 fun b hb => by
              simp only [isAt, Bool.and_eq_true, decide_eq_true_eq, not_and]
              intro e1 e2
              exact h1 b hb ⟨hs.trans e1.symm, hp.trans e2.symm⟩
            rw [hno]
            simp [isAt, hs, hp]
            omega
          · have hf : isAt s (q : Int) a = false := by simp [isAt, hp]
            rw [hf]
            simp only
            generalize (if (l.find? (isAt s (q : Int))).isSome = true then 1 else 0) = Z
            by_cases h0 : 0 ≤ a.p ∧ a.p < (q : Int)
            · have h1' : a.p < ((q + 1 : Nat) : Int) := by omega
              rw [if_pos (by simp only [Bool.and_eq_true, decide_eq_true_eq]; exact ⟨hs, h0.1, h1'⟩), if_pos (by simp only [Bool.and_eq_true, decide_eq_true_eq]; exact ⟨hs, h0⟩)]
              omega
            · have h1' : ¬ (0 ≤ a.p ∧ a.p < ((q + 1 : Nat) : Int)) := by omega
              rw [if_neg (by simp only [Bool.and_eq_true, decide_eq_true_eq]; exact fun e => h1' e.2), if_neg (by simp only [Bool.and_eq_true, decide_eq_true_eq]; exact fun e => h0 e.2)]
              omega
        · have hf : isAt s (q : Int) a = false := by simp [isAt, hs]
          rw [hf]
          simp [hs]
    exact (key x.S hu).symm
theorem gone_taken {x : Idx} (hG : Good x) (hL : Lay x) (s : Int) : goneN x s = takenN x s 4 := by
  rw [taken_is hG]
  unfold goneN goneX
  simp only
  have h1 := List.length_eq_countP_add_countP (fun a : Std => decide (a.s = s)) (l := x.S)
  have h2 : (x.S.countP fun a => decide (a.s = s) && (decide (0 ≤ a.p) && decide (a.p < ((4 : Nat) : Int)))) = x.S.countP fun a => decide (a.s = s) := List.countP_congr fun a ha => by
    have := hL.pl a ha
    simp only [Bool.and_eq_true, decide_eq_true_eq]
    constructor
    · exact fun h => h.1
    · exact fun h => ⟨h, by omega, by omega⟩
  have h3 : (x.S.filter fun a => decide (a.s ≠ s)).length = x.S.countP fun a => decide (¬ decide (a.s = s) = true) := by
    rw [List.countP_eq_length_filter]
    congr 1
    exact List.filter_congr fun a _ => by simp
  rw [h2, h3]
  omega
theorem gone_no (x : Idx) (s : Int) : (∀ p, atX (goneX x s) s p = none) ∧ inN (goneX x s) s = 0 ∧ inL (goneX x s) s = 0 ∧ inZ (goneX x s) s = 0 ∧ goneN (goneX x s) s = 0 := by
  have hS : ∀ a ∈ (goneX x s).S, ¬ a.s = s := fun a ha => by simpa using (List.mem_filter.1 ha).2
  have hL : ∀ a ∈ (goneX x s).L, ¬ a.s = s := fun a ha => by simpa using (List.mem_filter.1 ha).2
  refine ⟨fun p => at_none.2 fun a ha e => hS a ha e.1, List.countP_eq_zero.2 fun a ha => by simp [hL a ha], List.countP_eq_zero.2 fun a ha => by simp [hL a ha], ?_, ?_⟩
  · unfold inZ
    rw [List.filter_eq_nil_iff.2 fun a ha => by simp [hL a ha]]
    rfl
  · unfold goneN
    have : (goneX (goneX x s) s).S = (goneX x s).S := List.filter_eq_self.2 fun a ha => by simpa using hS a ha
    rw [this]
    omega
theorem gone_oth {x : Idx} (hL : Lay x) (s : Int) (k : Key) : othX (goneX x s) k (-1) = othX x k s := by
  unfold othX goneX
  simp only
  rw [List.countP_filter]
  refine List.countP_congr fun a ha => ?_
  have := hL.pl a ha
  simp only [Bool.and_eq_true, decide_eq_true_eq]
  constructor
  · exact fun h => ⟨h.1.1, h.2⟩
  · exact fun h => ⟨⟨h.1, by omega⟩, h.2⟩
end Go.Proofs.Ytjdkgkllgapgjaa.Ix
