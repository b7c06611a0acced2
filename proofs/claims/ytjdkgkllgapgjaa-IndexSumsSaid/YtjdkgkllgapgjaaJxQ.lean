/- The plain side of what the segments tell together: how many newest ones a segment has, the sums, the ids in order. -/
import Derived.Test.YtjdkgkllgapgjaaJxP
namespace Go.Proofs.Ytjdkgkllgapgjaa.Ix
open Go.RowKit Go.Lib
open Re (Rec Key isL rcA RR RC cut80 cutR ROk)
open Sp
set_option linter.unusedVariables false
set_option linter.unusedSimpArgs false
set_option maxRecDepth 100000

theorem st_one {x : Idx} (hG : Good x) {a b : Nw} (ha : a ∈ x.L) (hb : b ∈ x.L) (e : a.s = b.s ∧ a.p = b.p) : a = b := by
  obtain ⟨c, hc, c1, c2, c3⟩ := hG.st a ha
  obtain ⟨d, hd, d1, d2, d3⟩ := hG.st b hb
  have hcd : c = d := by
    have key : ∀ l : List Std, (l.Pairwise fun a b => ¬ (a.s = b.s ∧ a.p = b.p)) → c ∈ l → d ∈ l → c = d := by
      intro l
      induction l with
      | nil => intro _ h; cases h
      | cons z l ih =>
        intro hl h1 h2
        obtain ⟨k1, k2⟩ := List.pairwise_cons.1 hl
        rcases List.mem_cons.1 h1 with rfl | h1'
        · rcases List.mem_cons.1 h2 with rfl | h2'
          · rfl
          · exact absurd ⟨c2.trans (e.1.trans d2.symm), c3.trans (e.2.trans d3.symm)⟩ (k1 d h2')
        · rcases List.mem_cons.1 h2 with rfl | h2'
          · exact absurd ⟨d2.trans (e.1.symm.trans c2.symm), d3.trans (e.2.symm.trans c3.symm)⟩ (k1 c h1')
          · exact ih k2 h1' h2'
    exact key x.S hG.u hc hd
  subst hcd
  exact up_one hG.o ha hb (by unfold Nw.key; rw [← c1, ← d1])
theorem in_le4 {x : Idx} (hG : Good x) (hL : Lay x) (s : Int) : inN x s ≤ 4 := by
  unfold inN
  rw [List.countP_eq_length_filter, ← List.length_map Nw.p]
  refine Nat.le_trans (nodup_le (m := [0, 1, 2, 3]) ?_ fun p hp => ?_) (Nat.le_refl 4)
  · rw [List.Nodup, List.pairwise_map]
    refine List.Pairwise.imp_of_mem ?_ (List.Pairwise.filter _ hG.o)
    intro a b ha hb hab e
    obtain ⟨ha1, ha2⟩ := List.mem_filter.1 ha
    obtain ⟨hb1, hb2⟩ := List.mem_filter.1 hb
    simp only [decide_eq_true_eq] at ha2 hb2
    have := st_one hG ha1 hb1 ⟨ha2.trans hb2.symm, e⟩
    subst this
    exact List.lt_irrefl _ hab
  · obtain ⟨a, ha, rfl⟩ := List.mem_map.1 hp
    obtain ⟨c, hc, _, _, c3⟩ := hG.st a (List.mem_filter.1 ha).1
    have := hL.pl c hc
    simp only [List.mem_cons, List.not_mem_nil, or_false]
    omega
theorem inL_le (x : Idx) (s : Int) : inL x s ≤ inN x s := List.countP_mono_left fun a _ h => by
  simp only [Bool.and_eq_true, decide_eq_true_eq] at h ⊢
  exact h.1
theorem sum_bounds (l : List Nw) (h : ∀ a ∈ l, 31 ≤ a.z ∧ a.z ≤ 191) : 31 * (l.length : Int) ≤ (l.map Nw.z).sum ∧ (l.map Nw.z).sum ≤ 191 * (l.length : Int) := by
  induction l with
  | nil => exact ⟨Int.le_refl _, Int.le_refl _⟩
  | cons a l ih =>
    obtain ⟨h1, h2⟩ := ih fun a ha => h a (List.mem_cons_of_mem _ ha)
    have h3 := h a (List.mem_cons_self ..)
    rw [List.map_cons, List.sum_cons, List.length_cons]
    omega
theorem inZ_bounds {x : Idx} (hG : Good x) (s : Int) : 31 * (inL x s : Int) ≤ inZ x s ∧ inZ x s ≤ 191 * (inL x s : Int) := by
  unfold inL inZ
  rw [List.countP_eq_length_filter]
  exact sum_bounds _ fun a ha => hG.z a (List.mem_filter.1 ha).1
def sumTo (f : Nat → Int) : Nat → Int
  | 0 => 0
  | q + 1 => sumTo f q + f q
theorem sumTo_add (f g : Nat → Int) : ∀ q, sumTo (fun s => f s + g s) q = sumTo f q + sumTo g q
  | 0 => rfl
  | q + 1 => by rw [sumTo, sumTo, sumTo, sumTo_add f g q]; omega
theorem sumTo_one (z v : Int) (hz : 0 ≤ z) : ∀ q : Nat, sumTo (fun s => if z = (s : Int) then v else 0) q = if z < (q : Int) then v else 0
  | 0 => by rw [if_neg (by omega)]; rfl
  | q + 1 => by
    rw [sumTo, sumTo_one z v hz q]
    by_cases h1 : z < (q : Int)
    · rw [if_pos h1, if_neg (by omega), if_pos (by omega)]; omega
    · by_cases h2 : z = (q : Int)
      · rw [if_neg h1, if_pos h2, if_pos (by omega)]; omega
      · rw [if_neg h1, if_neg h2, if_neg (by omega)]; omega
theorem sumTo_congr {f g : Nat → Int} (h : ∀ s, f s = g s) : ∀ q, sumTo f q = sumTo g q
  | 0 => rfl
  | q + 1 => by rw [sumTo, sumTo, sumTo_congr h q, h]
theorem sumTo_zero : ∀ q, sumTo (fun _ => 0) q = 0
  | 0 => rfl
  | q + 1 => by rw [sumTo, sumTo_zero q]; rfl
/-- Over all segments: each live one once. -/
theorem sum_all (v : Nw → Int) : ∀ l : List Nw, (∀ a ∈ l, 0 ≤ a.s ∧ a.s < 10) → sumTo (fun s => ((l.filter fun a => decide (a.s = (s : Int)) && a.b).map v).sum) 10 = ((l.filter Nw.b).map v).sum
  | [], _ => sumTo_zero 10
  | a :: l, h => by
    have ih := sum_all v l fun b hb => h b (List.mem_cons_of_mem _ hb)
    have ha := h a (List.mem_cons_self ..)
    have hf : ∀ s : Nat, (((a :: l).filter fun a => decide (a.s = (s : Int)) && a.b).map v).sum = ((l.filter fun a => decide (a.s = (s : Int)) && a.b).map v).sum + if a.s = (s : Int) then (if a.b then v a else 0) else 0 := fun s => by
      rw [List.filter_cons]
      by_cases h1 : a.s = (s : Int)
      · cases hb : a.b
        · simp [h1, hb]
        · simp [h1, hb]; omega
      · simp [h1]
    rw [sumTo_congr hf, sumTo_add, ih, sumTo_one _ _ ha.1, if_pos (show a.s < ((10 : Nat) : Int) from ha.2), List.filter_cons]
    cases hb : a.b
    · simp [hb]
    · simp [hb]; omega
theorem ent_range {x : Idx} (hG : Good x) (hL : Lay x) : ∀ a ∈ x.L, 0 ≤ a.s ∧ a.s < 10 ∧ 0 ≤ a.p ∧ a.p < 4 := fun a ha => by
  obtain ⟨c, hc, _, c2, c3⟩ := hG.st a ha
  have := hL.pl c hc
  rw [c2, c3] at this
  exact this
theorem len_sum (l : List Nw) : (l.map fun _ => (1 : Int)).sum = (l.length : Int) := by
  induction l with
  | nil => rfl
  | cons a l ih => rw [List.map_cons, List.sum_cons, ih, List.length_cons]; omega
def sumL (x : Idx) (q : Nat) : Int := sumTo (fun s => (inL x (s : Int) : Nat)) q
def sumZ (x : Idx) (q : Nat) : Int := sumTo (fun s => inZ x (s : Int)) q
def liv (x : Idx) : List Nw := x.L.filter Nw.b
theorem sumL_all {x : Idx} (hG : Good x) (hL : Lay x) : sumL x 10 = ((idsX x).length : Nat) := by
  have h := sum_all (fun _ => 1) x.L fun a ha => ⟨(ent_range hG hL a ha).1, (ent_range hG hL a ha).2.1⟩
  rw [len_sum] at h
  unfold idsX
  rw [List.length_map, ← h]
  refine sumTo_congr (fun s => ?_) 10
  unfold inL
  rw [List.countP_eq_length_filter]
  exact (len_sum _).symm
theorem sumZ_all {x : Idx} (hG : Good x) (hL : Lay x) : sumZ x 10 = ((liv x).map Nw.z).sum := sum_all Nw.z x.L fun a ha => ⟨(ent_range hG hL a ha).1, (ent_range hG hL a ha).2.1⟩
theorem sumL_bound {x : Idx} (hG : Good x) (hL : Lay x) : ∀ q, 0 ≤ sumL x q ∧ sumL x q ≤ 4 * (q : Int)
  | 0 => by unfold sumL; exact ⟨Int.le_refl _, Int.le_refl _⟩
  | q + 1 => by
    obtain ⟨h1, h2⟩ := sumL_bound hG hL q
    have h3 := in_le4 hG hL (q : Int)
    have h4 := inL_le x (q : Int)
    have e : sumL x (q + 1) = sumL x q + (inL x (q : Int) : Nat) := rfl
    rw [e]
    omega
theorem sumZ_bound {x : Idx} (hG : Good x) (hL : Lay x) : ∀ q, 0 ≤ sumZ x q ∧ sumZ x q ≤ 764 * (q : Int)
  | 0 => by unfold sumZ; exact ⟨Int.le_refl _, Int.le_refl _⟩
  | q + 1 => by
    obtain ⟨h1, h2⟩ := sumZ_bound hG hL q
    have h3 := in_le4 hG hL (q : Int)
    have h4 := inL_le x (q : Int)
    obtain ⟨h5, h6⟩ := inZ_bounds hG (q : Int)
    have e : sumZ x (q + 1) = sumZ x q + inZ x (q : Int) := rfl
    rw [e]
    omega
/-- What is left of the sizes behind the first ids. -/
def lft (x : Idx) (q : Nat) : Int := (((liv x).drop q).map Nw.z).sum
theorem lft_zero (x : Idx) : lft x 0 = ((liv x).map Nw.z).sum := rfl
theorem lft_step {x : Idx} {q : Nat} {a : Nw} (h : (liv x)[q]? = some a) : lft x (q + 1) = lft x q - a.z := by
  unfold lft
  have hlt := (List.getElem?_eq_some_iff.1 h).1
  have h7 := List.drop_eq_getElem_cons hlt
  rw [(List.getElem?_eq_some_iff.1 h).2] at h7
  rw [h7, List.map_cons, List.sum_cons]
  omega
theorem lft_end {x : Idx} {q : Nat} (h : (liv x).length ≤ q) : lft x q = 0 := by
  unfold lft
  rw [List.drop_eq_nil_of_le h]
  rfl
theorem lft_bound {x : Idx} (hG : Good x) (q : Nat) : 0 ≤ lft x q ∧ lft x q ≤ 191 * (x.L.length : Int) := by
  unfold lft
  have h1 : ((liv x).drop q).length ≤ x.L.length := Nat.le_trans (by rw [List.length_drop]; exact Nat.sub_le _ _) (List.length_filter_le Nw.b x.L)
  obtain ⟨h2, h3⟩ := sum_bounds ((liv x).drop q) fun a ha => hG.z a (List.mem_filter.1 (List.mem_of_mem_drop ha)).1
  omega
/-- The live ones: told by their ids, standing where they tell, in order. -/
theorem liv_is {x : Idx} (hG : Good x) {q : Nat} {a : Nw} (h : (liv x)[q]? = some a) : (idsX x)[q]? = some a.i ∧ fndX x a.i.toList = some a ∧ a.b = true ∧ ∃ c, atX x a.s a.p = some c ∧ c.i = a.i := by
  obtain ⟨ha, hb⟩ := List.mem_filter.1 (List.mem_of_getElem? h)
  refine ⟨?_, fnd_at hG.o ha, hb, ?_⟩
  · unfold idsX
    rw [List.getElem?_map]
    show (liv x)[q]?.map Nw.i = _
    rw [h]
    rfl
  · obtain ⟨c, hc, c1, c2, c3⟩ := hG.st a ha
    cases hat : atX x a.s a.p with
    | none => exact absurd ⟨c2, c3⟩ (at_none.1 hat c hc)
    | some d =>
      obtain ⟨h1, h2, h3⟩ := at_some hat
      refine ⟨d, rfl, ?_⟩
      have key : ∀ l : List Std, (l.Pairwise fun a b => ¬ (a.s = b.s ∧ a.p = b.p)) → c ∈ l → d ∈ l → c = d := by
        intro l
        induction l with
        | nil => intro _ h; cases h
        | cons z l ih =>
          intro hl k1 k2
          obtain ⟨m1, m2⟩ := List.pairwise_cons.1 hl
          rcases List.mem_cons.1 k1 with rfl | k1'
          · rcases List.mem_cons.1 k2 with rfl | k2'
            · rfl
            · exact absurd ⟨c2.trans h2.symm, c3.trans h3.symm⟩ (m1 d k2')
          · rcases List.mem_cons.1 k2 with rfl | k2'
            · exact absurd ⟨h2.trans c2.symm, h3.trans c3.symm⟩ (m1 c k1')
            · exact ih m2 k1' k2'
      rw [← key x.S hG.u hc h1, c1]
theorem liv_lt {x : Idx} (hG : Good x) {q : Nat} {a b : Nw} (ha : (liv x)[q]? = some a) (hb : (liv x)[q + 1]? = some b) : a.key < b.key := by
  have hp : (liv x).Pairwise fun a b => a.key < b.key := List.Pairwise.filter _ hG.o
  obtain ⟨h1, e1⟩ := List.getElem?_eq_some_iff.1 ha
  obtain ⟨h2, e2⟩ := List.getElem?_eq_some_iff.1 hb
  have := List.pairwise_iff_getElem.1 hp q (q + 1) h1 h2 (by omega)
  rw [e1, e2] at this
  exact this
def klN (x : Idx) (f : Nat → ByteArray) : Nat → Idx
  | 0 => x
  | q + 1 => killX (klN x f q) (f q).toList
theorem kl_good {x : Idx} (hG : Good x) (hL : Lay x) (f : Nat → ByteArray) : ∀ q, Good (klN x f q) ∧ Lay (klN x f q)
  | 0 => ⟨hG, hL⟩
  | q + 1 => by
    obtain ⟨h1, h2⟩ := kl_good hG hL f q
    exact ⟨h1.kill _, h2.kill _⟩
end Go.Proofs.Ytjdkgkllgapgjaa.Ix
