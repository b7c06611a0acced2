/- Plain: what is picked without one that was not picked, and with one more behind. -/
import Derived.Test.YtgepkomomjmmhaaViG
namespace Go.Proofs.Ytgepkomomjmmhaa.Vi
set_option linter.unusedVariables false

theorem cdA_left {M N : List Cd} {k : Nat} (h : k < M.length) : cdA (M ++ N) k = cdA M k := by
  unfold cdA
  rw [List.getElem?_append_left h]
theorem cdA_last {M : List Cd} {x : Cd} : cdA (M ++ [x]) M.length = x := cdA_of (by simp)
theorem top_of {M : List Cd} {room : Int} {j : Nat} (h : pick M room = (j : Int)) : Top M.length (cdA M) (may M room) j := by
  have hb := best_is (cdA M) (may M room) M.length
  have e : best M.length (cdA M) (may M room) = (j : Int) := h
  generalize best M.length (cdA M) (may M room) = b at hb e
  cases hb with
  | none h => omega
  | some i hi =>
    obtain rfl : i = j := by omega
    exact hi
theorem none_of {M : List Cd} {room : Int} (h : pick M room < 0) : ∀ k, k < M.length → may M room k = false := by
  have hb := best_is (cdA M) (may M room) M.length
  have e : best M.length (cdA M) (may M room) < 0 := h
  generalize best M.length (cdA M) (may M room) = b at hb e
  cases hb with
  | none h => exact h
  | some i hi => omega
/-- One more, behind, that is no better. -/
theorem pick_more {M : List Cd} {room : Int} {j : Nat} {x : Cd} (h : pick M room = (j : Int)) (hx : better x (cdA M j) = false) : pick (M ++ [x]) room = (j : Int) := by
  have t := top_of h
  have hj := t.lt
  refine best_top ⟨by simp; omega, ?_, fun k hk hp => ?_, fun k hk hp => ?_⟩
  · have := t.p
    unfold may at this ⊢
    rw [cdA_left hj]
    exact this
  · rw [cdA_left hj]
    rw [List.length_append] at hk
    by_cases h1 : k < M.length
    · rw [cdA_left h1]
      refine t.no k h1 ?_
      unfold may at hp ⊢
      rwa [cdA_left h1] at hp
    · obtain rfl : k = M.length := by simp at hk; omega
      rw [cdA_last]
      exact hx
  · rw [cdA_left hj, cdA_left (by omega)]
    refine t.ah k hk ?_
    unfold may at hp ⊢
    rwa [cdA_left (by omega)] at hp
/-- Without one. -/
def without (M : List Cd) (q : Nat) : List Cd := M.take q ++ M.drop (q + 1)
theorem without_len {M : List Cd} {q : Nat} (h : q < M.length) : (without M q).length = M.length - 1 := by unfold without; simp; omega
theorem without_at {M : List Cd} {q k : Nat} (h : q < M.length) (hk : k < M.length - 1) : cdA (without M q) k = cdA M (if k < q then k else k + 1) := by
  unfold cdA without
  by_cases h1 : k < q
  · rw [if_pos h1, List.getElem?_append_left (by simp; omega), List.getElem?_take_of_lt h1]
  · rw [if_neg h1, List.getElem?_append_right (by simp; omega), List.getElem?_drop]
    congr 2
    simp
    omega
theorem may_without {M : List Cd} {room : Int} {q k : Nat} (h : q < M.length) (hk : k < M.length - 1) : may (without M q) room k = may M room (if k < q then k else k + 1) := by
  unfold may
  rw [without_at h hk]
theorem pick_without {M : List Cd} {room : Int} {q : Nat} (hq : q < M.length) (hne : pick M room ≠ (q : Int)) : pick (without M q) room = if (q : Int) < pick M room then pick M room - 1 else pick M room := by
  by_cases h0 : pick M room < 0
  · rw [if_neg (by omega)]
    have e : pick M room = -1 := by have := pick_ge M room; omega
    rw [e]
    refine best_none (fun k hk => ?_)
    rw [without_len hq] at hk
    rw [may_without hq hk]
    exact none_of h0 _ (by split <;> omega)
  · obtain ⟨j, hj⟩ : ∃ j : Nat, pick M room = (j : Int) := ⟨(pick M room).toNat, by omega⟩
    have t := top_of hj
    rw [hj] at hne ⊢
    have hjq : j ≠ q := fun e => hne (by rw [e])
    have hlt := t.lt
    have key : ∀ j', j' < M.length - 1 → (if j' < q then j' else j' + 1) = j → Top (without M q).length (cdA (without M q)) (may (without M q) room) j' := fun j' h1 h2 => by
      refine ⟨by rw [without_len hq]; exact h1, by rw [may_without hq h1, h2]; exact t.p, fun k hk hp => ?_, fun k hk hp => ?_⟩
      · rw [without_len hq] at hk
        rw [without_at hq hk, without_at hq h1, h2]
        rw [may_without hq hk] at hp
        exact t.no _ (by split <;> omega) hp
      · have hk1 : k < M.length - 1 := by omega
        rw [without_at hq hk1, without_at hq h1, h2]
        rw [may_without hq hk1] at hp
        refine t.ah _ ?_ hp
        rw [← h2]
        split <;> split <;> omega
    by_cases hc : q < j
    · rw [if_pos (by omega)]
      have e : ((j : Int) - 1) = ((j - 1 : Nat) : Int) := by omega
      rw [e]
      exact best_top (key (j - 1) (by omega) (by split <;> omega))
    · rw [if_neg (by omega)]
      exact best_top (key j (by omega) (by split <;> omega))
/-- The rest of a row. -/
theorem CR.rest {w : World} {g o n : Nat} {L : List Cd} (h : CR w (some ⟨g, o, none⟩) n L) (q : Nat) : CR w (some ⟨g, o + q * 5, none⟩) (n - q) (L.drop q) :=
  ⟨by rw [List.length_drop, ← h.len], fun h0 => by
    obtain ⟨g', o', e, hc⟩ := h.c (by omega)
    injection e with e
    injection e with e1 e2 _
    subst e1 e2
    refine ⟨g, o + q * 5, rfl, fun i j r hi hj => ?_⟩
    rw [List.getElem?_drop] at hi
    rw [show o + q * 5 + i * 5 + j = o + (q + i) * 5 + j by omega]
    exact hc (q + i) j r hi hj⟩
end Go.Proofs.Ytgepkomomjmmhaa.Vi
