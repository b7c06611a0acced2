/- Plain: candidates whose ages are cut, and as many times older. -/
import Derived.Test.YtgepkomomjmmhaaViG
namespace Go.Proofs.Ytgepkomomjmmhaa.Vi
set_option linter.unusedVariables false

def modA (c : Cd) : Cd := ⟨c.s, c.l, c.v, c.n, c.a % 1048576⟩
def scaA (t : Int) (c : Cd) : Cd := ⟨c.s, c.l, c.v, c.n, c.a % 1048576 * t⟩
theorem modA_in {c : Cd} (h : CIn c) : CIn (modA c) := ⟨h.s, h.l, h.v, h.n, by have := h.a; unfold COk modA at *; simp only; omega⟩
theorem scaA_lt {c : Cd} {t : Int} (h : CIn c) (h1 : 1 ≤ t) (h2 : t ≤ 1000) : 0 ≤ c.a % 1048576 * t ∧ c.a % 1048576 * t ≤ 1048575000 := by
  have e0 : 0 ≤ c.a % 1048576 := by omega
  have e1 : c.a % 1048576 ≤ 1048575 := by omega
  have e2 : c.a % 1048576 * t ≤ 1048575 * t := Int.mul_le_mul_of_nonneg_right e1 (by omega)
  exact ⟨Int.mul_nonneg e0 (by omega), by omega⟩
theorem scaA_in {c : Cd} {t : Int} (h : CIn c) (h1 : 1 ≤ t) (h2 : t ≤ 1000) : CIn (scaA t c) := ⟨h.s, h.l, h.v, h.n, by have := scaA_lt h h1 h2; unfold COk scaA; simp only; omega⟩
theorem sca_gain {c : Cd} {t : Int} (h : CIn c) (h1 : 1 ≤ t) (h2 : t ≤ 1000) : gain (scaA t c) = gain (modA c) * t := by
  have e1 : agec (scaA t c) = c.a % 1048576 * t := by
    have := scaA_lt h h1 h2
    unfold agec scaA
    simp only
    omega
  have e2 : agec (modA c) = c.a % 1048576 := by
    unfold agec modA
    simp only
    omega
  show (num c - liv c) * agec (scaA t c) = (num c - liv c) * agec (modA c) * t
  rw [e1, e2, Int.mul_assoc]
theorem sca_better {a b : Cd} {t : Int} (ha : CIn a) (hb : CIn b) (h1 : 1 ≤ t) (h2 : t ≤ 1000) : better (modA a) (modA b) = better (scaA t a) (scaA t b) := by
  unfold better
  rw [sca_gain ha h1 h2, sca_gain hb h1 h2]
  have ca : cost (scaA t a) = cost (modA a) := rfl
  have cb : cost (scaA t b) = cost (modA b) := rfl
  rw [ca, cb, Int.mul_right_comm, Int.mul_right_comm (gain (modA a))]
  by_cases h : gain (modA b) * cost (modA a) < gain (modA a) * cost (modA b)
  · rw [decide_eq_true h, decide_eq_true (Int.mul_lt_mul_of_pos_right h (by omega))]
  · rw [decide_eq_false h, decide_eq_false (fun k => h (Int.lt_of_mul_lt_mul_right k (by omega)))]
theorem cdA_map {f : Cd → Cd} {M : List Cd} {k : Nat} (hk : k < M.length) : cdA (M.map f) k = f (cdA M k) := by
  rw [cdA_of (List.getElem?_eq_getElem (l := M) hk)]
  exact cdA_of (by rw [List.getElem?_map, List.getElem?_eq_getElem hk]; rfl)
theorem cdA_mem {M : List Cd} {k : Nat} (hk : k < M.length) : cdA M k ∈ M := by
  rw [cdA_of (List.getElem?_eq_getElem (l := M) hk)]
  exact List.getElem_mem hk
theorem sca_at {M : List Cd} {t : Int} (hM : ∀ x ∈ M, CIn x) (h1 : 1 ≤ t) (h2 : t ≤ 1000) : ∀ i k, i < M.length → k < M.length → better (cdA (M.map modA) i) (cdA (M.map modA) k) = better (cdA (M.map (scaA t)) i) (cdA (M.map (scaA t)) k) := fun i k hi hk => by
  rw [cdA_map hi, cdA_map hk, cdA_map hi, cdA_map hk]
  exact sca_better (hM _ (cdA_mem hi)) (hM _ (cdA_mem hk)) h1 h2
theorem sca_pick {M : List Cd} {t : Int} (hM : ∀ x ∈ M, CIn x) (h1 : 1 ≤ t) (h2 : t ≤ 1000) (room : Int) : pick (M.map modA) room = pick (M.map (scaA t)) room := by
  unfold pick
  rw [List.length_map, List.length_map]
  refine best_same (fun k hk => ?_) (sca_at hM h1 h2)
  unfold may
  rw [cdA_map hk, cdA_map hk]
  rfl
theorem sca_order {M : List Cd} {t : Int} (hM : ∀ x ∈ M, CIn x) (h1 : 1 ≤ t) (h2 : t ≤ 1000) : order (M.map modA) = order (M.map (scaA t)) := by
  unfold order
  rw [List.length_map, List.length_map, ord_same (sca_at hM h1 h2)]
/-- The list behind so many rounds. -/
def cutsN (M : List Cd) (i : Nat) : List Cd := (M.take i).map modA ++ M.drop i
theorem cuts_at {M : List Cd} {i : Nat} {x : Cd} (h : M[i]? = some x) : (cutsN M i)[i]? = some x := by
  have hi := (List.getElem?_eq_some_iff.1 h).1
  unfold cutsN
  rw [List.getElem?_append_right (by simp; omega)]
  simp only [List.length_map, List.length_take]
  rw [show i - min i M.length = 0 by omega, List.getElem?_drop, Nat.add_zero]
  exact h
theorem cuts_set {M : List Cd} {i : Nat} {x : Cd} (h : M[i]? = some x) : (cutsN M i).set i (modA x) = cutsN M (i + 1) := by
  have hi := (List.getElem?_eq_some_iff.1 h).1
  unfold cutsN
  rw [List.set_append_right _ _ (by simp; omega)]
  simp only [List.length_map, List.length_take]
  rw [show i - min i M.length = 0 by omega, take_one h, List.map_append, List.map_cons, List.map_nil, List.append_assoc]
  congr 1
  rw [List.drop_eq_getElem_cons hi]
  have e : M[i] = x := by have := List.getElem?_eq_getElem hi; rw [h] at this; injection this with this; exact this.symm
  rw [e]
  rfl
theorem cuts_len (M : List Cd) (i : Nat) : (cutsN M i).length = M.length := by unfold cutsN; simp; omega
theorem cuts_all (M : List Cd) {i : Nat} (h : M.length ≤ i) : cutsN M i = M.map modA := by
  unfold cutsN
  rw [List.take_of_length_le h, List.drop_eq_nil_of_le h, List.append_nil]
theorem sca_succ {M : List Cd} {i : Nat} {x : Cd} {t : Int} (h : M[i]? = some x) : (M.take (i + 1)).map (scaA t) = (M.take i).map (scaA t) ++ [scaA t x] := by
  rw [take_one h, List.map_append]
  rfl
end Go.Proofs.Ytgepkomomjmmhaa.Vi
