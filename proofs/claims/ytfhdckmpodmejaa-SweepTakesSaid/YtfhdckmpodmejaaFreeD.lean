/- A region that draws its order, whose operations may make and write memory: as in the text FreeC, but each step also knows that whatever has come up, all that it waits for has come up too: so an operation that waits for another one, by however many steps, has not come up ahead of it. No program is spoken of. -/
import Derived.WalkKit
import Derived.Orders
import Derived.Test.YtfhdckmpodmejaaFreeC
namespace Go.Proofs.Ytfhdckmpodmejaa.FreeD
open Go.RowKit Free

/-- All that the listed operations wait for is listed. -/
def Dep (ops : Array Oper) (listed : Array Bool) : Prop := ∀ i o, ops[i]? = some o → listed.getD i false = true → ∀ e ∈ o.after, Region.binds .any e = true → listed.getD e.on false = true
/-- x waits for i, in at most so many steps. -/
def waits (ops : Array Oper) (i : Nat) : Nat → Nat → Bool
  | 0, x => x == i
  | f + 1, x => x == i || match ops[x]? with
    | none => false
    | some o => o.after.toList.any fun e => Region.binds .any e && waits ops i f e.on
theorem Dep.back {ops : Array Oper} {listed : Array Bool} (h : Dep ops listed) {i : Nat} : ∀ (f x : Nat), waits ops i f x = true → listed.getD x false = true → listed.getD i false = true
  | 0, x, hw, hl => by
    unfold waits at hw
    rw [beq_iff_eq] at hw
    rw [← hw]; exact hl
  | f + 1, x, hw, hl => by
    unfold waits at hw
    rw [Bool.or_eq_true] at hw
    rcases hw with hw | hw
    · rw [beq_iff_eq] at hw
      rw [← hw]; exact hl
    · cases ho : ops[x]? with
      | none => rw [ho] at hw; cases hw
      | some o =>
        rw [ho] at hw
        simp only [List.any_eq_true, Bool.and_eq_true] at hw
        obtain ⟨e, he, hb, hr⟩ := hw
        exact h.back f e.on hr (h x o ho hl e (by simpa using he) hb)
/-- What has not come up holds back all that waits for it. -/
theorem Dep.not_yet {ops : Array Oper} {listed : Array Bool} (h : Dep ops listed) {i x f : Nat} (hw : waits ops i f x = true) (hn : listed.getD i false = false) : listed.getD x false = false := by
  cases hl : listed.getD x false with
  | false => rfl
  | true => rw [h.back f x hw hl] at hn; cases hn

section
variable (P : Program) (ops : Array Oper) (VL : List (World → Value → Prop)) (C : Array Bool → Act → World → Prop) (a0 : Act)
def Step (Q : Exit → Act → World → Prop) (i : Nat) (o : Oper) : Prop :=
  ∀ (listed : Array Bool) (a : Act) (w : World), FreeC.At ops VL C a0 listed a w → Dep ops listed → listed.getD i true = false → (∀ e ∈ o.after, Region.binds .any e = true → listed.getD e.on false = true) →
    ∀ K : Act → World → Prop, (∀ v w', C (listed.setIfInBounds i true) (a.put o.dst v) w' → V VL i w' (match o.dst with | some _ => v | none => undef) → (∀ j u, j ≠ i → listed.getD j false = true → V VL j w u → V VL j w' u) → K (a.put o.dst v) w') → o.wp P a w K Q
def Steps (Q : Exit → Act → World → Prop) : Nat → List Oper → Prop
  | _, [] => True
  | k, o :: l => Step P ops VL C a0 Q k o ∧ Steps Q (k + 1) l
end
section
variable {P : Program} {ops : Array Oper} {VL : List (World → Value → Prop)} {C : Array Bool → Act → World → Prop} {a0 : Act}
theorem at_of {listed : Array Bool} {a : Act} {w : World} (h : FreeC.At ops VL (fun l a w => C l a w ∧ Dep ops l) a0 listed a w) : FreeC.At ops VL C a0 listed a w := ⟨h.size, h.slots, h.defers, h.c.1, h.val, h.kept⟩
theorem step_of {Q : Exit → Act → World → Prop} {i : Nat} {o : Oper} (ho : ops[i]? = some o) (h : Step P ops VL C a0 Q i o) : FreeC.Step P ops VL (fun l a w => C l a w ∧ Dep ops l) a0 Q i o := by
  intro listed a w hA hno hr K hK
  refine h listed a w (at_of hA) hA.c.2 hno hr K fun v w' hC hV hP => hK v w' ⟨hC, ?_⟩ hV hP
  intro j oj hj hl e he hb
  by_cases hji : j = i
  · subst hji
    rw [ho] at hj
    injection hj with hj
    subst hj
    have := hr e he hb
    by_cases hei : j = e.on
    · rw [← hei] at this
      have hlt : j < listed.size := by rw [hA.size]; exact (Array.getElem?_eq_some_iff.1 ho).1
      rw [← hei]; simp [hlt]
    · rw [getD_set_ne false hei]; exact this
  · rw [getD_set_ne false (Ne.symm hji)] at hl
    have := hA.c.2 j oj hj hl e he hb
    by_cases hei : i = e.on
    · subst hei
      have hlt : e.on < listed.size := by rw [hA.size]; exact (Array.getElem?_eq_some_iff.1 ho).1
      simp [hlt]
    · rw [getD_set_ne false hei]; exact this
theorem steps_of {Q : Exit → Act → World → Prop} : ∀ (l : List Oper) (k : Nat), (∀ j o, l[j]? = some o → ops[k + j]? = some o) → Steps P ops VL C a0 Q k l → FreeC.Steps P ops VL (fun l a w => C l a w ∧ Dep ops l) a0 Q k l
  | [], _, _, _ => trivial
  | o :: l, k, hk, hs => ⟨step_of (by have := hk 0 o (by simp); simpa using this) hs.1, steps_of l (k + 1) (fun j o hj => by have := hk (j + 1) o (by simpa using hj); rw [show k + 1 + j = k + (j + 1) by omega]; exact this) hs.2⟩
/-- **The law.** -/
theorem wp_freeD {id : Nat} {Q : Exit → Act → World → Prop} {w : World} {l : List Oper} (VL : List (World → Value → Prop)) (C : Array Bool → Act → World → Prop)
    (hm : P.follows .mixedOrders = true) (hB : okB l.toArray a0.tmps.size = true) (hC : C (Array.replicate l.length false) a0 { w with drawn := w.drawn + 1 })
    (hS : Steps P l.toArray VL C a0 Q 0 l)
    (fin : ∀ a w, FreeC.At l.toArray VL C a0 (Array.replicate l.length true) a w → Q .normal a w) : (Code.region id l.toArray true).wp P Q a0 w := by
  refine FreeC.wp_freeC VL (fun li a w => C li a w ∧ Dep l.toArray li) hm hB ⟨hC, fun i o hi hl => ?_⟩ (steps_of l 0 (fun j o hj => by rw [Nat.zero_add]; simpa using hj) hS) (fun a w h => fin a w (at_of h))
  exfalso
  simp only [Array.getD_eq_getD_getElem?, Array.getElem?_replicate] at hl
  split at hl <;> simp at hl
end

/-- While operation x, which all others that touch memory are ahead of, has not come up, no memory that was there has changed; behind it P holds. -/
structure Last (w : World) (x : Nat) (P : World → Prop) (listed : Array Bool) (a : Act) (W : World) : Prop where
  bef : listed.getD x false = false → Below w.heap.size w W
  aft : listed.getD x false = true → P W
section
variable {w W W' : World} {x : Nat} {P : World → Prop} {listed : Array Bool} {a a' : Act}
theorem Last.start (w : World) (x : Nat) (P : World → Prop) (k : Nat) (a : Act) : Last w x P (Array.replicate k false) a { w with drawn := w.drawn + 1 } :=
  ⟨fun _ => (Below.refl _ _).drew, fun e => by
    simp only [Array.getD_eq_getD_getElem?, Array.getElem?_replicate] at e
    split at e <;> simp at e⟩
theorem Last.step (h : Last w x P listed a W) {i : Nat} (hi : i ≠ x) (hx : listed.getD x false = false) (hb : Below W.heap.size W W') : Last w x P (listed.setIfInBounds i true) a' W' := by
  have e : (listed.setIfInBounds i true).getD x false = listed.getD x false := getD_set_ne false hi
  exact ⟨fun _ => (h.bef hx).trans (hb.mono (h.bef hx).size), fun e2 => by rw [e, hx] at e2; cases e2⟩
/-- An operation that touches no memory. -/
theorem Last.still (h : Last w x P listed a W) {i : Nat} (hi : i ≠ x) : Last w x P (listed.setIfInBounds i true) a' W := by
  have e : (listed.setIfInBounds i true).getD x false = listed.getD x false := getD_set_ne false hi
  exact ⟨by rw [e]; exact h.bef, by rw [e]; exact h.aft⟩
theorem Last.last (hsz : x < listed.size) (hp : P W') : Last w x P (listed.setIfInBounds x true) a' W' :=
  ⟨fun e => by simp [hsz] at e, fun _ => hp⟩
end
/-- Conditions of values alone: a value, or none. -/
def wl (vs : List (Option Value)) : List (World → Value → Prop) := vs.map fun o _ u => match o with | none => True | some v => u = v
theorem wl_any {vs : List (Option Value)} {j : Nat} {W W' : World} {u : Value} (h : Free.V (wl vs) j W u) : Free.V (wl vs) j W' u := by
  unfold Free.V wl at *
  simp only [List.getD_eq_getElem?_getD, List.getElem?_map] at h ⊢
  cases hi : vs[j]? with
  | none => rw [hi] at h; exact h
  | some c => rw [hi] at h; exact h
theorem slot_is {xs : Array Value} {n : Nat} {v : Value} (h : xs.getD n undef = v) : xs[n]?.getD undef = v := by simpa using h
theorem not_listed {listed : Array Bool} {i : Nat} (hi : i < listed.size) (h : listed.getD i true = false) : listed.getD i false = false := by
  simp only [Array.getD_eq_getD_getElem?] at h ⊢
  have : listed[i]? = some (listed[i]'hi) := Array.getElem?_eq_getElem hi
  rw [this] at h ⊢
  exact h
end Go.Proofs.Ytfhdckmpodmejaa.FreeD
