/- While the law TableOnce lays what do tells into two new blocks, in whatever order. -/
import Derived.Test.YtpgbbbgblgkokaaTbDo
namespace Go.Proofs.Ytpgbbbgblgkokaa
open Go.RowKit Go.Lib
set_option linter.unusedVariables false

/-- Conditions of values alone. -/
def wq (ps : List (Value → Prop)) : List (World → Value → Prop) := ps.map fun p _ u => p u
theorem wq_any {ps : List (Value → Prop)} {j : Nat} {W W' : World} {u : Value} (h : Free.V (wq ps) j W u) : Free.V (wq ps) j W' u := by
  unfold Free.V wq at *
  simp only [List.getD_eq_getElem?_getD, List.getElem?_map] at h ⊢
  cases hi : ps[j]? with
  | none => rw [hi] at h; exact h
  | some c => rw [hi] at h; exact h
def AggP (u : Value) : Prop := ∃ (sg st : Int) (A : Option Addr) (m p : Nat) (B : Option Addr) (k q : Nat) (C : Option Addr) (n r : Nat), u = .agg #[.int .i64 sg, .int .i64 st, .slice A m p, .slice B k q, .slice C n r]
def TupP (u : Value) : Prop := ∃ (sg st : Int) (A : Option Addr) (m p : Nat) (B : Option Addr) (k q : Nat) (C : Option Addr) (n r : Nat) (A1 : Option Addr) (m1 p1 : Nat) (B1 : Option Addr) (k1 q1 : Nat) (C1 : Option Addr) (n1 r1 : Nat), u = .tuple #[.agg #[.int .i64 sg, .int .i64 st, .slice A m p, .slice B k q, .slice C n r], .agg #[.int .i64 sg, .int .i64 st, .slice A1 m1 p1, .slice B1 k1 q1, .slice C1 n1 r1], .bool true]

/-- Old memory as it was, two blocks as they were, the two new ones. -/
structure O6 (w : World) (cs op : Array Value) (listed : Array Bool) (a : Act) (W : World) : Prop where
  b : Below w.heap.size w W
  z : Blk W w.heap.size 28 cs
  x : Blk W (w.heap.size + 1) 42 op
  s : w.heap.size + 2 ≤ W.heap.size
  k7 : listed.getD 9 false = true → ∃ b vs, a.tmps.getD 7 undef = .pointer (some ⟨b, 0, none⟩) ∧ w.heap.size + 2 ≤ b ∧ vs.size = 5 ∧ Blk W b 28 vs
  k8 : listed.getD 10 false = true → ∃ b vs, a.tmps.getD 8 undef = .pointer (some ⟨b, 0, none⟩) ∧ w.heap.size + 2 ≤ b ∧ vs.size = 5 ∧ Blk W b 32 vs
section
variable {w W W' : World} {cs op : Array Value} {listed : Array Bool} {a : Act}
theorem O6.step (h : O6 w cs op listed a W) (i d : Nat) (v : Value) (h9 : i ≠ 9) (h10 : i ≠ 10) (hd : d ≠ 7) (hd' : d ≠ 8) (hb : Below W.heap.size W W') : O6 w cs op (listed.setIfInBounds i true) (a.put (some d) v) W' := by
  refine ⟨Ge.trans h.b hb, h.z.later hb, h.x.later hb, Nat.le_trans h.s hb.size, ?_, ?_⟩
  · rw [getD_set_ne false h9]
    intro e
    obtain ⟨b, vs, e1, e2, e3, e4⟩ := h.k7 e
    exact ⟨b, vs, (Free.slot_ne v hd).trans e1, e2, e3, e4.later hb⟩
  · rw [getD_set_ne false h10]
    intro e
    obtain ⟨b, vs, e1, e2, e3, e4⟩ := h.k8 e
    exact ⟨b, vs, (Free.slot_ne v hd').trans e1, e2, e3, e4.later hb⟩
theorem O6.al7 (h : O6 w cs op listed a W) (ha : 8 < a.tmps.size) (vs : Array Value) (hv : vs.size = 5) : O6 w cs op (listed.setIfInBounds 9 true) (a.put (some 7) (.pointer (some ⟨W.heap.size, 0, none⟩))) (W.alloc (.cells vs 28)) := by
  have hb := below1 W (.cells vs 28)
  refine ⟨Ge.trans h.b hb, h.z.later hb, h.x.later hb, Nat.le_trans h.s hb.size, fun _ => ⟨W.heap.size, vs, ?_, h.s, hv, Blk.new _ _ _⟩, ?_⟩
  · unfold Act.put
    simp [show 7 < a.tmps.size by omega]
  · rw [getD_set_ne false (by omega)]
    intro e
    obtain ⟨b, vs', e1, e2, e3, e4⟩ := h.k8 e
    exact ⟨b, vs', (Free.slot_ne _ (by omega)).trans e1, e2, e3, e4.later hb⟩
theorem O6.al8 (h : O6 w cs op listed a W) (ha : 8 < a.tmps.size) (vs : Array Value) (hv : vs.size = 5) : O6 w cs op (listed.setIfInBounds 10 true) (a.put (some 8) (.pointer (some ⟨W.heap.size, 0, none⟩))) (W.alloc (.cells vs 32)) := by
  have hb := below1 W (.cells vs 32)
  refine ⟨Ge.trans h.b hb, h.z.later hb, h.x.later hb, Nat.le_trans h.s hb.size, ?_, fun _ => ⟨W.heap.size, vs, ?_, h.s, hv, Blk.new _ _ _⟩⟩
  · rw [getD_set_ne false (by omega)]
    intro e
    obtain ⟨b, vs', e1, e2, e3, e4⟩ := h.k7 e
    exact ⟨b, vs', (Free.slot_ne _ (by omega)).trans e1, e2, e3, e4.later hb⟩
  · unfold Act.put
    simp [ha]
theorem blk_ne {W : World} {b c : Nat} {T T' : TypeId} {vs us : Array Value} (h : Blk W b T vs) (h' : Blk W c T' us) (hne : T ≠ T') : b ≠ c := by
  intro e
  subst e
  unfold Blk at h h'
  rw [h] at h'
  injection h' with h'
  injection h' with _ h'
  exact hne h'
theorem O6.st7 (h : O6 w cs op listed a W) {b : Nat} {vs us : Array Value} (e1 : a.tmps.getD 7 undef = .pointer (some ⟨b, 0, none⟩)) (hb : w.heap.size + 2 ≤ b) (hB : Blk W b 28 vs) (hu : us.size = 5) : O6 w cs op (listed.setIfInBounds 11 true) (a.put none undef) (W.setRow b us) := by
  refine ⟨below_row h.b (by omega) _, h.z.far (by omega) _, h.x.far (by omega) _, by rw [row_size]; exact h.s, ?_, ?_⟩
  · exact fun _ => ⟨b, us, e1, hb, hu, hB.row _⟩
  · rw [getD_set_ne false (by omega)]
    intro e
    obtain ⟨c, vs', f1, f2, f3, f4⟩ := h.k8 e
    exact ⟨c, vs', f1, f2, f3, f4.far (blk_ne hB f4 (by decide)) _⟩
theorem O6.st8 (h : O6 w cs op listed a W) {b : Nat} {vs us : Array Value} (e1 : a.tmps.getD 8 undef = .pointer (some ⟨b, 0, none⟩)) (hb : w.heap.size + 2 ≤ b) (hB : Blk W b 32 vs) (hu : us.size = 5) : O6 w cs op (listed.setIfInBounds 12 true) (a.put none undef) (W.setRow b us) := by
  refine ⟨below_row h.b (by omega) _, h.z.far (by omega) _, h.x.far (by omega) _, by rw [row_size]; exact h.s, ?_, ?_⟩
  · rw [getD_set_ne false (by omega)]
    intro e
    obtain ⟨c, vs', f1, f2, f3, f4⟩ := h.k7 e
    exact ⟨c, vs', f1, f2, f3, f4.far (blk_ne hB f4 (by decide)) _⟩
  · exact fun _ => ⟨b, us, e1, hb, hu, hB.row _⟩
end
end Go.Proofs.Ytpgbbbgblgkokaa
