/- A region that draws its order, whose operations may make and write memory: as in the text FreeB, but the condition beside the operations' own may speak of the frame too (that two slots' blocks are unlike). No program is spoken of. -/
import Derived.WalkKit
import Derived.Orders
import Derived.Test.YtfhdckmpodmejaaFree
namespace Go.Proofs.Ytfhdckmpodmejaa.FreeC
open Go.RowKit Free

section
variable (P : Program) (ops : Array Oper) (VL : List (World → Value → Prop)) (C : Array Bool → Act → World → Prop) (a0 : Act)

/-- Where the region is: the operations that have come up, each with its condition; all other slots as they were. -/
structure At (listed : Array Bool) (a : Act) (w : World) : Prop where
  size : listed.size = ops.size
  slots : a.tmps.size = a0.tmps.size
  defers : a.defers = a0.defers
  c : C listed a w
  val : ∀ i o, ops[i]? = some o → listed.getD i false = true → V VL i w (got a o)
  kept : ∀ d, (∀ i o, ops[i]? = some o → listed.getD i false = true → o.dst ≠ some d) → a.tmps.getD d undef = a0.tmps.getD d undef

/-- One operation, wherever the region is. -/
def Step (Q : Exit → Act → World → Prop) (i : Nat) (o : Oper) : Prop :=
  ∀ (listed : Array Bool) (a : Act) (w : World), At ops VL C a0 listed a w → listed.getD i true = false → (∀ e ∈ o.after, Region.binds .any e = true → listed.getD e.on false = true) →
    ∀ K : Act → World → Prop, (∀ v w', C (listed.setIfInBounds i true) (a.put o.dst v) w' → V VL i w' (match o.dst with | some _ => v | none => undef) → (∀ j u, j ≠ i → listed.getD j false = true → V VL j w u → V VL j w' u) → K (a.put o.dst v) w') → o.wp P a w K Q

/-- All operations of a list, from number k on. -/
def Steps (Q : Exit → Act → World → Prop) : Nat → List Oper → Prop
  | _, [] => True
  | k, o :: l => Step P ops VL C a0 Q k o ∧ Steps Q (k + 1) l

end

section
variable {P : Program} {ops : Array Oper} {VL : List (World → Value → Prop)} {C : Array Bool → Act → World → Prop} {a0 : Act}

theorem steps_at {Q : Exit → Act → World → Prop} : ∀ (l : List Oper) (k : Nat), Steps P ops VL C a0 Q k l → ∀ j o, l[j]? = some o → Step P ops VL C a0 Q (k + j) o
  | [], _, _, j, o, h => by simp at h
  | x :: l, k, hs, 0, o, h => by simp at h; subst h; exact hs.1
  | x :: l, k, hs, j + 1, o, h => by
    have := steps_at l (k + 1) hs.2 j o (by simpa using h)
    rw [show k + (j + 1) = k + 1 + j by omega]; exact this

theorem walk {n : Nat} {Q : Exit → Act → World → Prop} (hB : okB ops n = true) (hn : a0.tmps.size = n)
    (hS : ∀ i o, ops[i]? = some o → Step P ops VL C a0 Q i o)
    (fin : ∀ a w, At ops VL C a0 (Array.replicate ops.size true) a w → Q .normal a w) :
    ∀ (fuel : Nat) (listed : Array Bool) (a : Act) (w : World), At ops VL C a0 listed a w → listed.count false ≤ fuel → wpAny P .any ops Q fuel listed a w := by
  intro fuel
  have done : ∀ (listed : Array Bool) (a : Act) (w : World), At ops VL C a0 listed a w → Region.ready .any ops listed = [] → Q .normal a w := by
    intro listed a w h hr
    have e := listed_all h.size (all_of_ready hB h.size hr)
    rw [e] at h
    exact fin a w h
  induction fuel with
  | zero =>
    intro listed a w h hc
    have hr : Region.ready .any ops listed = [] := by
      rw [List.eq_nil_iff_forall_not_mem]
      intro i hi
      obtain ⟨h1, o, ho, _⟩ := mem_ready.1 hi
      have hlt : i < listed.size := by rw [h.size]; exact (Array.getElem?_eq_some_iff.1 ho).1
      have h2 : listed[i] = false := by simpa [hlt] using h1
      have : 0 < listed.count false := by
        rw [Array.count_pos_iff]
        exact h2 ▸ Array.getElem_mem hlt
      omega
    exact ⟨hr, done _ _ _ h hr⟩
  | succ fuel ih =>
    intro listed a w h hc
    refine ⟨fun hr => done _ _ _ h hr, fun i hi => ?_⟩
    obtain ⟨h1, o, ho, hall⟩ := mem_ready.1 hi
    have hio : i < ops.size := (Array.getElem?_eq_some_iff.1 ho).1
    have hlt : i < listed.size := by rw [h.size]; exact hio
    have h2 : listed[i] = false := by simpa [hlt] using h1
    obtain ⟨hg, _, hd⟩ := okB_at hB ho
    have hwant : Region.wanted o (yielded ops a.tmps) = true := by simp [Region.wanted, hg]
    unfold wpOp
    simp only [ho, hwant, if_true]
    refine .inl (hS i o ho listed a w h h1 hall _ ?_)
    intro v w' hCw hv hper
    have hcount : (listed.setIfInBounds i true).count false ≤ fuel := by
      rw [Array.setIfInBounds, dif_pos hlt, Array.count_set hlt]
      have : 0 < listed.count false := by
        rw [Array.count_pos_iff]
        exact h2 ▸ Array.getElem_mem hlt
      simp [h2]
      omega
    have hgetD : ∀ j, j ≠ i → (listed.setIfInBounds i true).getD j false = listed.getD j false := fun j hj => getD_set_ne false (Ne.symm hj)
    refine ih _ _ _ ⟨by simp [h.size], ?_, ?_, hCw, ?_, ?_⟩ hcount
    · rw [← h.slots]
      unfold Act.put
      split <;> simp
    · rw [← h.defers]
      unfold Act.put
      split <;> rfl
    · intro j oj hj hl
      by_cases hji : j = i
      · subst hji
        rw [ho] at hj
        injection hj with hj
        subst hj
        cases hdst : o.dst with
        | none =>
          rw [hdst] at hv
          unfold got
          simp only [hdst]
          exact hv
        | some d =>
          rw [hdst] at hv
          have hdn := (hd d hdst).1
          have hsz : d < a.tmps.size := by rw [h.slots, hn]; exact hdn
          unfold got Act.put
          simp only [hdst]
          simpa [hsz] using hv
      · rw [hgetD j hji] at hl
        have hold := hper j _ hji hl (h.val j oj hj hl)
        have e : got (a.put o.dst v) oj = got a oj := by
          unfold got
          cases hoj : oj.dst with
          | none => rfl
          | some d =>
            simp only
            cases hdst : o.dst with
            | none => rfl
            | some d' =>
              have hne : d' ≠ d := by
                intro e
                subst e
                exact unlike hB hj ho hji hoj hdst
              unfold Act.put
              simp only
              exact slot_ne v hne
        rw [e]; exact hold
    · intro d hdn
      have hno : ∀ j oj, ops[j]? = some oj → listed.getD j false = true → oj.dst ≠ some d := by
        intro j oj hj hl
        by_cases hji : j = i
        · subst hji
          rw [ho] at hj
          injection hj with hj
          subst hj
          exact hdn j o ho (by simp [hlt])
        · exact hdn j oj hj (by rw [hgetD j hji]; exact hl)
      have hio' : o.dst ≠ some d := hdn i o ho (by simp [hlt])
      rw [← h.kept d hno]
      unfold Act.put
      cases hdst : o.dst with
      | none => rfl
      | some d' =>
        simp only
        exact slot_ne v (fun e => hio' (by rw [hdst, e]))

/-- **The law.** -/
theorem wp_freeC {id : Nat} {Q : Exit → Act → World → Prop} {w : World} {l : List Oper} (VL : List (World → Value → Prop)) (C : Array Bool → Act → World → Prop)
    (hm : P.follows .mixedOrders = true) (hB : okB l.toArray a0.tmps.size = true) (hC : C (Array.replicate l.length false) a0 { w with drawn := w.drawn + 1 })
    (hS : Steps P l.toArray VL C a0 Q 0 l)
    (fin : ∀ a w, At l.toArray VL C a0 (Array.replicate l.length true) a w → Q .normal a w) : (Code.region id l.toArray true).wp P Q a0 w := by
  refine wp_region_any hm ?_
  refine walk hB rfl (fun i o hi => ?_) (by simpa using fin) _ _ _ _ ⟨by simp, rfl, rfl, by simpa using hC, ?_, fun _ _ => rfl⟩ ?_
  · have := steps_at l 0 hS i o (by simpa using hi)
    rwa [Nat.zero_add] at this
  · intro i o hi hl
    exfalso
    simp only [Array.getD_eq_getD_getElem?, Array.getElem?_replicate] at hl
    split at hl <;> simp at hl
  · simp
end
end Go.Proofs.Ytfhdckmpodmejaa.FreeC
