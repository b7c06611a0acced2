/- A region that draws its order, whose operations may make memory: what each operation's slot holds is told by a condition that stays true while the others come up, in whatever order; one proof an operation serves every order. No program is spoken of. -/
import Derived.WalkKit
import Derived.Orders
import Derived.BigQuiet
namespace Go.Proofs.Ytfhdckmpodmejaa.Free
open Go.RowKit

/-- What an operation left in its slot. -/
def got (a : Act) (o : Oper) : Value := match o.dst with
  | some d => a.tmps.getD d undef
  | none => undef

section
variable (P : Program) (ops : Array Oper) (VL : List (World → Value → Prop)) (C : World → Prop) (R : World → World → Prop) (a0 : Act)

def V (i : Nat) (w : World) (v : Value) : Prop := (VL.getD i (fun _ _ => True)) w v

/-- Where the region is: the operations that have come up, each with its condition; all other slots as they were. -/
structure At (listed : Array Bool) (a : Act) (w : World) : Prop where
  size : listed.size = ops.size
  slots : a.tmps.size = a0.tmps.size
  defers : a.defers = a0.defers
  c : C w
  val : ∀ i o, ops[i]? = some o → listed.getD i false = true → V VL i w (got a o)
  kept : ∀ d, (∀ i o, ops[i]? = some o → listed.getD i false = true → o.dst ≠ some d) → a.tmps.getD d undef = a0.tmps.getD d undef

/-- One operation, wherever the region is. -/
def Step (Q : Exit → Act → World → Prop) (i : Nat) (o : Oper) : Prop :=
  ∀ (listed : Array Bool) (a : Act) (w : World), At ops VL C a0 listed a w → (∀ e ∈ o.after, Region.binds .any e = true → listed.getD e.on false = true) →
    ∀ K : Act → World → Prop, (∀ v w', R w w' → V VL i w' (match o.dst with | some _ => v | none => undef) → K (a.put o.dst v) w') → o.wp P a w K Q

/-- All operations of a list, from number k on. -/
def Steps (Q : Exit → Act → World → Prop) : Nat → List Oper → Prop
  | _, [] => True
  | k, o :: l => Step P ops VL C R a0 Q k o ∧ Steps Q (k + 1) l

/-- No guards; each waits for earlier ones alone; unlike slots, all in the frame. -/
def okB (n : Nat) : Bool :=
  (List.range ops.size).all fun i => match ops[i]? with
    | none => false
    | some o => o.guard.isNone && o.after.all (fun e => !Region.binds .any e || decide (e.on < i)) &&
      (match o.dst with
        | none => true
        | some d => decide (d < n) && (List.range i).all fun j => match ops[j]? with
          | none => true
          | some o' => o'.dst != some d)
end

section
variable {P : Program} {ops : Array Oper} {VL : List (World → Value → Prop)} {C : World → Prop} {R : World → World → Prop} {a0 : Act}

theorem slot_ne {xs : Array Value} {i j : Nat} (v : Value) (h : i ≠ j) : (xs.setIfInBounds i v).getD j undef = xs.getD j undef := by
  simp only [Array.getD_eq_getD_getElem?]
  rw [Array.getElem?_setIfInBounds_ne h]

theorem steps_at {Q : Exit → Act → World → Prop} : ∀ (l : List Oper) (k : Nat), Steps P ops VL C R a0 Q k l → ∀ j o, l[j]? = some o → Step P ops VL C R a0 Q (k + j) o
  | [], _, _, j, o, h => by simp at h
  | x :: l, k, hs, 0, o, h => by simp at h; subst h; exact hs.1
  | x :: l, k, hs, j + 1, o, h => by
    have := steps_at l (k + 1) hs.2 j o (by simpa using h)
    rw [show k + (j + 1) = k + 1 + j by omega]; exact this

theorem okB_at {n : Nat} (h : okB ops n = true) {i : Nat} {o : Oper} (hi : ops[i]? = some o) :
    o.guard = none ∧ (∀ e ∈ o.after, Region.binds .any e = true → e.on < i) ∧ (∀ d, o.dst = some d → d < n ∧ ∀ j o', j < i → ops[j]? = some o' → o'.dst ≠ some d) := by
  have hlt : i < ops.size := (Array.getElem?_eq_some_iff.1 hi).1
  unfold okB at h
  rw [List.all_eq_true] at h
  have := h i (List.mem_range.2 hlt)
  rw [hi] at this
  simp only [Bool.and_eq_true] at this
  obtain ⟨⟨h1, h2⟩, h3⟩ := this
  refine ⟨by simpa using h1, fun e he hb => ?_, fun d hd => ?_⟩
  · rw [Array.all_eq_true_iff_forall_mem] at h2
    have := h2 e he
    rw [hb] at this
    simpa using this
  · rw [hd] at h3
    simp only [Bool.and_eq_true, decide_eq_true_iff, List.all_eq_true, List.mem_range] at h3
    refine ⟨h3.1, fun j o' hj ho' => ?_⟩
    have := h3.2 j hj
    rw [ho'] at this
    simpa using this

theorem unlike {n : Nat} (h : okB ops n = true) {i j : Nat} {o o' : Oper} (hi : ops[i]? = some o) (hj : ops[j]? = some o') (hne : i ≠ j) {d : Nat} (hd : o.dst = some d) : o'.dst ≠ some d := by
  rcases Nat.lt_or_gt_of_ne hne with hlt | hlt
  · intro hd'
    exact ((okB_at h hj).2.2 d hd').2 i o hlt hi hd
  · exact ((okB_at h hi).2.2 d hd).2 j o' hlt hj

theorem all_of_ready {n : Nat} (h : okB ops n = true) {listed : Array Bool} (hs : listed.size = ops.size) (hr : Region.ready .any ops listed = []) : ∀ i, i < ops.size → listed.getD i false = true := by
  intro i
  induction i using Nat.strongRecOn with
  | _ i ih =>
    intro hi
    cases hb : listed.getD i false
    · exfalso
      have hm : i ∈ Region.ready .any ops listed := by
        rw [mem_ready]
        have hli : i < listed.size := by omega
        refine ⟨by simpa [hli] using hb, ops[i], Array.getElem?_eq_getElem hi, fun e he hbi => ?_⟩
        have := (okB_at h (Array.getElem?_eq_getElem hi)).2.1 e he hbi
        exact ih e.on this (by omega)
      rw [hr] at hm; cases hm
    · rfl

theorem listed_all {listed : Array Bool} {n : Nat} (hs : listed.size = n) (h : ∀ i, i < n → listed.getD i false = true) : listed = Array.replicate n true := by
  apply Array.ext
  · simp [hs]
  · intro i h1 h2
    have := h i (by omega)
    simp [h1] at this
    simp [this]

theorem walk {n : Nat} {Q : Exit → Act → World → Prop} (hB : okB ops n = true) (hn : a0.tmps.size = n) (hCm : ∀ w w', C w → R w w' → C w') (hVm : ∀ i w w' v, R w w' → V VL i w v → V VL i w' v)
    (hS : ∀ i o, ops[i]? = some o → Step P ops VL C R a0 Q i o)
    (fin : ∀ a w, At ops VL C a0 (Array.replicate ops.size true) a w → Q .normal a w) :
    ∀ (fuel : Nat) (listed : Array Bool) (a : Act) (w : World), At ops VL C a0 listed a w → listed.count false ≤ fuel → wpAny P .any ops Q fuel listed a w := by
  intro fuel
  have done : ∀ (listed : Array Bool) (a : Act) (w : World), At ops VL C a0 listed a w → Region.ready .any ops listed = [] → Q .normal a w := by
    intro listed a w h hr
    have e := listed_all h.size (all_of_ready hB h.size hr)
    rw [e] at h
    exact fin a w h
  induction fuel with
  | zero =>
    intro listed a w h hc
    have hr : Region.ready .any ops listed = [] := by
      rw [List.eq_nil_iff_forall_not_mem]
      intro i hi
      obtain ⟨h1, o, ho, _⟩ := mem_ready.1 hi
      have hlt : i < listed.size := by rw [h.size]; exact (Array.getElem?_eq_some_iff.1 ho).1
      have h2 : listed[i] = false := by simpa [hlt] using h1
      have : 0 < listed.count false := by
        rw [Array.count_pos_iff]
        exact h2 ▸ Array.getElem_mem hlt
      omega
    exact ⟨hr, done _ _ _ h hr⟩
  | succ fuel ih =>
    intro listed a w h hc
    refine ⟨fun hr => done _ _ _ h hr, fun i hi => ?_⟩
    obtain ⟨h1, o, ho, hall⟩ := mem_ready.1 hi
    have hio : i < ops.size := (Array.getElem?_eq_some_iff.1 ho).1
    have hlt : i < listed.size := by rw [h.size]; exact hio
    have h2 : listed[i] = false := by simpa [hlt] using h1
    obtain ⟨hg, _, hd⟩ := okB_at hB ho
    have hwant : Region.wanted o (yielded ops a.tmps) = true := by simp [Region.wanted, hg]
    unfold wpOp
    simp only [ho, hwant, if_true]
    refine .inl (hS i o ho listed a w h hall _ ?_)
    intro v w' hR hv
    have hcount : (listed.setIfInBounds i true).count false ≤ fuel := by
      rw [Array.setIfInBounds, dif_pos hlt, Array.count_set hlt]
      have : 0 < listed.count false := by
        rw [Array.count_pos_iff]
        exact h2 ▸ Array.getElem_mem hlt
      simp [h2]
      omega
    have hgetD : ∀ j, j ≠ i → (listed.setIfInBounds i true).getD j false = listed.getD j false := fun j hj => getD_set_ne false (Ne.symm hj)
    refine ih _ _ _ ⟨by simp [h.size], ?_, ?_, hCm _ _ h.c hR, ?_, ?_⟩ hcount
    · rw [← h.slots]
      unfold Act.put
      split <;> simp
    · rw [← h.defers]
      unfold Act.put
      split <;> rfl
    · intro j oj hj hl
      by_cases hji : j = i
      · subst hji
        rw [ho] at hj
        injection hj with hj
        subst hj
        cases hdst : o.dst with
        | none =>
          rw [hdst] at hv
          unfold got
          simp only [hdst]
          exact hv
        | some d =>
          rw [hdst] at hv
          have hdn := (hd d hdst).1
          have hsz : d < a.tmps.size := by rw [h.slots, hn]; exact hdn
          unfold got Act.put
          simp only [hdst]
          simpa [hsz] using hv
      · rw [hgetD j hji] at hl
        have hold := hVm j _ _ _ hR (h.val j oj hj hl)
        have e : got (a.put o.dst v) oj = got a oj := by
          unfold got
          cases hoj : oj.dst with
          | none => rfl
          | some d =>
            simp only
            cases hdst : o.dst with
            | none => rfl
            | some d' =>
              have hne : d' ≠ d := by
                intro e
                subst e
                exact unlike hB hj ho hji hoj hdst
              unfold Act.put
              simp only
              exact slot_ne v hne
        rw [e]; exact hold
    · intro d hdn
      have hno : ∀ j oj, ops[j]? = some oj → listed.getD j false = true → oj.dst ≠ some d := by
        intro j oj hj hl
        by_cases hji : j = i
        · subst hji
          rw [ho] at hj
          injection hj with hj
          subst hj
          exact hdn j o ho (by simp [hlt])
        · exact hdn j oj hj (by rw [hgetD j hji]; exact hl)
      have hio' : o.dst ≠ some d := hdn i o ho (by simp [hlt])
      rw [← h.kept d hno]
      unfold Act.put
      cases hdst : o.dst with
      | none => rfl
      | some d' =>
        simp only
        exact slot_ne v (fun e => hio' (by rw [hdst, e]))

/-- A slot that no operation of the region fills. -/
theorem not_dst {listed : Array Bool} {d : Nat} (h : ops.all (fun o => o.dst != some d) = true) : ∀ i o, ops[i]? = some o → listed.getD i false = true → o.dst ≠ some d := by
  intro i o hi _
  rw [Array.all_eq_true_iff_forall_mem] at h
  have := h o (Array.mem_of_getElem? hi)
  simpa using this

/-- **The law.** -/
theorem wp_free {id : Nat} {Q : Exit → Act → World → Prop} {w : World} {l : List Oper} (VL : List (World → Value → Prop)) (C : World → Prop) (R : World → World → Prop)
    (hm : P.follows .mixedOrders = true) (hB : okB l.toArray a0.tmps.size = true) (hC : C { w with drawn := w.drawn + 1 })
    (hCm : ∀ w w', C w → R w w' → C w') (hVm : ∀ p ∈ VL, ∀ w w' v, R w w' → p w v → p w' v)
    (hS : Steps P l.toArray VL C R a0 Q 0 l)
    (fin : ∀ a w, At l.toArray VL C a0 (Array.replicate l.length true) a w → Q .normal a w) : (Code.region id l.toArray true).wp P Q a0 w := by
  refine wp_region_any hm ?_
  refine walk hB rfl hCm ?_ (fun i o hi => ?_) (by simpa using fin) _ _ _ _ ⟨by simp, rfl, rfl, hC, ?_, fun _ _ => rfl⟩ ?_
  · intro i w w' v hR hv
    unfold V at *
    cases hi : VL[i]? with
    | none => simp only [List.getD_eq_getElem?_getD, hi]; exact trivial
    | some p =>
      simp only [List.getD_eq_getElem?_getD, hi, Option.getD_some] at hv ⊢
      exact hVm p (List.mem_of_getElem? hi) w w' v hR hv
  · have := steps_at l 0 hS i o (by simpa using hi)
    rwa [Nat.zero_add] at this
  · intro i o hi hl
    exfalso
    simp only [Array.getD_eq_getD_getElem?, Array.getElem?_replicate] at hl
    split at hl <;> simp at hl
  · simp
end
end Go.Proofs.Ytfhdckmpodmejaa.Free
