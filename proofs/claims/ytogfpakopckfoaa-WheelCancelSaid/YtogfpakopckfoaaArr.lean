/- An array of integers by value, of any length, as an argument is read: taken apart into its numbers, and put together again; and that for two and for four of them. -/
import Derived.WalkKit
import Derived.OpenShut
namespace Go.Proofs.Ytogfpakopckfoaa
open Go.ChangeShapes Go.WideShapes Go.RowKit
section
variable {H : Type} {enc : TypeId × Value → H} {P : Program} {w : World} {base : Nat} {spare : Nat → Bool} {held : Bool}

/-- Cells that are read one by one as integers are integers. -/
theorem ints_of {e : TypeId} {k : IntKind} {m : Nat} (he : P.underlying e = some (.int k)) : ∀ (cs : List Value) (xs : List (DataW H × List MemPlace)), cs.length = xs.length →
    (∀ i, i < xs.length → DataW.trod enc P w base spare held m e ((cs.drop i).take 1) = xs[i]?) →
    ∃ zs : List Int, cs = zs.map (Value.int k) ∧ xs = zs.map (fun z => (.lit (.int k z), [])) ∧ ∀ z ∈ zs, (Lit.int k z).wf = true
  | [], [], _, _ => ⟨[], rfl, rfl, fun _ h => by cases h⟩
  | [], _ :: _, hl, _ => by simp at hl
  | _ :: _, [], hl, _ => by simp at hl
  | c :: cs, x :: xs, hl, h => by
    obtain ⟨zs, rfl, rfl, hw⟩ := ints_of he cs xs (by simpa using hl) (fun i hi => by
      have := h (i + 1) (by simp; omega)
      simpa using this)
    have h0 := h 0 (by simp)
    rw [List.drop_zero, List.take_succ_cons, List.take_zero, List.getElem?_cons_zero] at h0
    obtain ⟨z, e1, rfl, wz⟩ := DataW.trod_int he h0
    refine ⟨z :: zs, ?_, rfl, fun y hy => ?_⟩
    · rw [List.map_cons]
      congr 1
      simpa using e1
    · rcases List.mem_cons.1 hy with rfl | hy
      · exact wz
      · exact hw y hy

theorem open_arr {r : Reach} {b0 n : Nat} {t e : TypeId} {k : IntKind} {v : Value} {d : DataW H} {ps : List MemPlace} (ht : P.underlying t = some (.array n e)) (he : P.underlying e = some (.int k)) (hce : P.cellsOf e = 1) (hct : P.cellsOf t = n)
    (hval : Value.okWide P w r b0 t v) (hd : DataW.Trod enc P w base spare held t v d ps) :
    ∃ zs : List Int, zs.length = n ∧ v = .agg (zs.map (Value.int k)).toArray ∧ d = .agg (zs.map fun z => .lit (.int k z)) ∧ ps = [] ∧ ∀ z ∈ zs, (Lit.int k z).wf = true := by
  obtain ⟨cs, rfl, hsz, _⟩ : ∃ cs, v = .agg cs ∧ cs.size = P.cellsOf t ∧ Row.okWide P w r b0 t cs := by
    simpa [Value.okWide, ht] using hval
  obtain ⟨fuel, hf⟩ := hd
  obtain ⟨xs, m, _, hx, _, hn, hi⟩ := DataW.trod_array ht hf
  rw [hct] at hsz
  have hl : cs.toList.length = xs.length := by rw [Array.length_toList, hsz, hn]
  obtain ⟨zs, hcs, rfl, hw⟩ := ints_of (enc := enc) (w := w) (base := base) (spare := spare) (held := held) (m := m) he cs.toList xs hl (fun i h => by
    have := hi i (by omega)
    rw [hce, Nat.mul_one] at this
    exact this)
  simp only [Prod.mk.injEq] at hx
  refine ⟨zs, by simpa using hn, ?_, ?_, ?_, hw⟩
  · rw [← hcs]
  · rw [hx.1, List.map_map]; rfl
  · rw [hx.2]; simp

theorem mapM_of {α β : Type} {f : α → Option β} {g : α → β} : ∀ l : List α, (∀ i ∈ l, f i = some (g i)) → l.mapM f = some (l.map g)
  | [], _ => rfl
  | i :: l, h => by
    rw [List.mapM_cons, h i (List.mem_cons_self ..), mapM_of l (fun j hj => h j (List.mem_cons_of_mem _ hj))]
    rfl

theorem shut_arr {t e : TypeId} {n : Nat} {k : IntKind} (zs : List Int) (hn : zs.length = n) (ht : P.underlying t = some (.array n e)) (he : P.underlying e = some (.int k)) (hce : P.cellsOf e = 1) (hct : P.cellsOf t = n) (hw : ∀ z ∈ zs, (Lit.int k z).wf = true) :
    DataW.Trod enc P w base spare held t (.agg (zs.map (Value.int k)).toArray) (.agg (zs.map fun z => .lit (.int k z))) [] := by
  refine ⟨2, ?_⟩
  have each : ∀ i ∈ List.range n, DataW.trod enc P w base spare held 1 e ((((zs.map (Value.int k)).toArray.toList).drop (i * P.cellsOf e)).take (P.cellsOf e)) = some (.lit (.int k (zs.getD i 0)), []) := by
    intro i hi
    have hlt : i < zs.length := by rw [hn]; exact List.mem_range.1 hi
    have hz : zs.getD i 0 = zs[i] := by rw [List.getD_eq_getElem?_getD, List.getElem?_eq_getElem hlt]; rfl
    have hq := hw zs[i] (List.getElem_mem hlt)
    have hone : (((zs.map (Value.int k)).toArray.toList).drop (i * P.cellsOf e)).take (P.cellsOf e) = [Value.int k zs[i]] := by
      rw [hce, Nat.mul_one, List.toList_toArray, List.drop_eq_getElem_cons (by simpa using hlt), List.take_succ_cons, List.take_zero, List.getElem_map]
    rw [hone, hz]
    simp [DataW.trod, he, hq]
  have all := mapM_of (List.range n) each
  have back : (List.range n).map (fun i => ((.lit (.int k (zs.getD i 0)), []) : DataW H × List MemPlace)) = zs.map (fun z => (.lit (.int k z), [])) := by
    apply List.ext_getElem
    · simp [hn]
    · intro i h1 h2
      have hlt : i < zs.length := by simpa using h2
      simp [List.getD_eq_getElem?_getD, List.getElem?_eq_getElem hlt]
  rw [back] at all
  rw [DataW.trod_step]
  unfold DataW.trodStep
  simp only [ht, Value.cells]
  rw [if_pos (by rw [hct]; simpa using hn), all]
  simp

theorem open_arr2 {r : Reach} {b0 : Nat} {t e : TypeId} {k : IntKind} {v : Value} {d : DataW H} {ps : List MemPlace} (ht : P.underlying t = some (.array 2 e)) (he : P.underlying e = some (.int k)) (hce : P.cellsOf e = 1) (hct : P.cellsOf t = 2)
    (hval : Value.okWide P w r b0 t v) (hd : DataW.Trod enc P w base spare held t v d ps) :
    ∃ x0 x1, v = .agg #[.int k x0, .int k x1] ∧ d = .agg [.lit (.int k x0), .lit (.int k x1)] ∧ ps = [] ∧ (Lit.int k x0).wf = true ∧ (Lit.int k x1).wf = true := by
  obtain ⟨zs, hn, hv, hd', hp, hw⟩ := open_arr ht he hce hct hval hd
  match zs, hn with
  | [x0, x1], _ => exact ⟨x0, x1, hv, hd', hp, hw x0 (by simp), hw x1 (by simp)⟩
theorem shut_arr2 {t e : TypeId} {k : IntKind} {x0 x1 : Int} (ht : P.underlying t = some (.array 2 e)) (he : P.underlying e = some (.int k)) (hce : P.cellsOf e = 1) (hct : P.cellsOf t = 2) (w0 : (Lit.int k x0).wf = true) (w1 : (Lit.int k x1).wf = true) :
    DataW.Trod enc P w base spare held t (.agg #[.int k x0, .int k x1]) (.agg [.lit (.int k x0), .lit (.int k x1)]) [] :=
  shut_arr [x0, x1] rfl ht he hce hct (by simp [w0, w1])

theorem open_arr4 {r : Reach} {b0 : Nat} {t e : TypeId} {k : IntKind} {v : Value} {d : DataW H} {ps : List MemPlace} (ht : P.underlying t = some (.array 4 e)) (he : P.underlying e = some (.int k)) (hce : P.cellsOf e = 1) (hct : P.cellsOf t = 4)
    (hval : Value.okWide P w r b0 t v) (hd : DataW.Trod enc P w base spare held t v d ps) :
    ∃ x0 x1 x2 x3, v = .agg #[.int k x0, .int k x1, .int k x2, .int k x3] ∧ d = .agg [.lit (.int k x0), .lit (.int k x1), .lit (.int k x2), .lit (.int k x3)] ∧ ps = [] ∧
      (Lit.int k x0).wf = true ∧ (Lit.int k x1).wf = true ∧ (Lit.int k x2).wf = true ∧ (Lit.int k x3).wf = true := by
  obtain ⟨zs, hn, hv, hd', hp, hw⟩ := open_arr ht he hce hct hval hd
  match zs, hn with
  | [x0, x1, x2, x3], _ => exact ⟨x0, x1, x2, x3, hv, hd', hp, hw x0 (by simp), hw x1 (by simp), hw x2 (by simp), hw x3 (by simp)⟩
theorem shut_arr4 {t e : TypeId} {k : IntKind} {x0 x1 x2 x3 : Int} (ht : P.underlying t = some (.array 4 e)) (he : P.underlying e = some (.int k)) (hce : P.cellsOf e = 1) (hct : P.cellsOf t = 4)
    (w0 : (Lit.int k x0).wf = true) (w1 : (Lit.int k x1).wf = true) (w2 : (Lit.int k x2).wf = true) (w3 : (Lit.int k x3).wf = true) :
    DataW.Trod enc P w base spare held t (.agg #[.int k x0, .int k x1, .int k x2, .int k x3]) (.agg [.lit (.int k x0), .lit (.int k x1), .lit (.int k x2), .lit (.int k x3)]) [] :=
  shut_arr [x0, x1, x2, x3] rfl ht he hce hct (by simp [w0, w1, w2, w3])
end
end Go.Proofs.Ytogfpakopckfoaa
