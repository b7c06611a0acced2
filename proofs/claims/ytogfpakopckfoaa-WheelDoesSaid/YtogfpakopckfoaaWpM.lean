/- The program's empty: the lists of some slots, one behind the other, and these slots left without any. -/
import Derived.Test.YtogfpakopckfoaaWpL
import Derived.Laws.CopyRow
namespace Go.Proofs.Ytogfpakopckfoaa.Wl
open Go.RowKit Go.Lib Go.Maps
open Sp
set_option linter.unusedVariables false
set_option maxRecDepth 100000

def clr {α : Type} (v : Nat → α) (q c : Nat) (x : α) : Nat → α := fun k => if q ≤ k ∧ k < q + c then x else v k
abbrev inR (t q c : Nat) (e : En) : Bool := decide (q ≤ ix t e.n ∧ ix t e.n < q + c)
/-- 'clear(m)' whose run is known. -/
theorem wp_clear {ops : Array Oper} {rest : List Oper} {o : Oper} {a : Act} {w : World} {Q : Exit → Act → World → Prop} (t : TypeId) (hgd : o.guard = none) (s : Operand)
    (ho : o.op = .call { callee := .builtin .clear, args := #[s], argTypes := #[t] }) (u1 : Value) (hs : a.eval s = u1) {v' : Value} {W5 : World}
    (hrun : ∀ ty, (Builtin.clear_ #[t] ty #[u1]).run Try.prog w = .ok v' W5) (h : wpList Try.prog ops Q rest (a.put o.dst v') W5) : wpList Try.prog ops Q (o :: rest) a w := by
  refine wpList_plain hgd fun K hK => ?_
  unfold Oper.wp execOp
  simp only [ho, resolve, invoke, builtin, Sem.run_bind, Sem.run_pure, Result.andThen_ok, List.map_toArray, List.map_cons, List.map_nil, hs, hrun]
  exact hK _ _ h
theorem two_perm {A : List En} {p q r : En → Bool} (h1 : ∀ e ∈ A, r e = true ↔ p e = true ∨ q e = true) (h2 : ∀ e ∈ A, p e = true → q e = false) : (A.filter p ++ A.filter q).Perm (A.filter r) := by
  induction A with
  | nil => exact List.Perm.refl _
  | cons a A ih =>
    have ih := ih (fun e he => h1 e (List.mem_cons_of_mem _ he)) (fun e he => h2 e (List.mem_cons_of_mem _ he))
    have h1 := h1 a (List.mem_cons_self ..)
    have h2 := h2 a (List.mem_cons_self ..)
    by_cases hp : p a = true
    · rw [List.filter_cons_of_pos hp, List.filter_cons_of_neg (by simp [h2 hp]), List.filter_cons_of_pos (h1.2 (.inl hp))]
      exact ih.cons a
    · by_cases hq : q a = true
      · rw [List.filter_cons_of_neg hp, List.filter_cons_of_pos hq, List.filter_cons_of_pos (h1.2 (.inr hq))]
        exact List.perm_middle.trans (ih.cons a)
      · rw [List.filter_cons_of_neg hp, List.filter_cons_of_neg hq, List.filter_cons_of_neg (fun h => by rcases h1.1 h with h | h; exact hp h; exact hq h)]
        exact ih
section
variable {W w w' : World} {items : List Sp.Item} {k g t ma mf : Nat} {v : Nat → Value} {sl : Nat → List En} {L A : List En} {p : En → Bool} {e : En}
theorem cat_perm (h : MemW w g ma mf v sl t L A p) (q : Nat) : ∀ c, q + c ≤ 64 → (catL (fun i => sl (q + i)) c).Perm (A.filter (fun e => p e && inR t q c e))
  | 0, _ => by
    have hnil : A.filter (fun e => p e && inR t q 0 e) = [] := List.filter_eq_nil_iff.2 fun a _ ha => by
      simp only [inR, Bool.and_eq_true, decide_eq_true_iff] at ha
      omega
    rw [hnil]
    exact List.Perm.refl _
  | c + 1, hc => by
    refine ((cat_perm h q c (by omega)).append (h.per (q + c) (by omega))).trans (two_perm (fun e _ => ?_) (fun e _ he => ?_))
    · simp only [inR, slP, Bool.and_eq_true, decide_eq_true_iff]
      constructor
      · rintro ⟨h1, h2, h3⟩
        by_cases h4 : ix t e.n = q + c
        · exact .inr ⟨h1, h4⟩
        · exact .inl ⟨h1, h2, by omega⟩
      · rintro (⟨h1, h2, h3⟩ | ⟨h1, h2⟩)
        · exact ⟨h1, h2, by omega⟩
        · exact ⟨h1, by omega, by omega⟩
    · simp only [inR, Bool.and_eq_true, decide_eq_true_iff] at he
      simp only [slP, Bool.and_eq_false_iff, decide_eq_false_iff_not]
      exact .inr (by omega)
theorem run_clear (h : Sp.Blk w g 66 (whC t ma mf v)) {q c cp : Nat} (hc : q + c ≤ 64) (h0 : 0 < c) (ty : TypeId) : (Builtin.clear_ #[86] ty #[.slice (some ⟨g, 2 + q, none⟩) c cp]).run Try.prog w = .ok (.tuple #[]) (w.setRow g (whC t ma mf (clr v q c (.slice none 0 0)))) := by
  have hz : (Builtin.zeroCells (Value.slice none 0 0).cells c).toList = List.replicate c (Value.slice none 0 0) := by
    apply List.ext_getElem?
    intro i
    have e1 : (Value.slice none 0 0).cells = #[Value.slice none 0 0] := rfl
    by_cases hi : i < c
    · rw [List.getElem?_replicate, if_pos hi]
      simp [Builtin.zeroCells, e1, hi, Nat.mod_one]
    · rw [List.getElem?_replicate, if_neg hi, List.getElem?_eq_none]
      simp [Builtin.zeroCells, e1]
      omega
  have hst := run_storeCells_at Try.prog g (2 + q) 66 (List.replicate c (Value.slice none 0 0)) 0 (whC t ma mf v) w h (by rw [whC_size, List.length_replicate]; omega) (fun u hu => by rw [List.eq_of_mem_replicate hu]; rfl)
  have e2 : ((whC t ma mf v).toList.take (2 + q + 0) ++ List.replicate c (Value.slice none 0 0) ++ (whC t ma mf v).toList.drop (2 + q + 0 + (List.replicate c (Value.slice none 0 0)).length)).toArray = whC t ma mf (clr v q c (.slice none 0 0)) := by
    have hcell : ∀ i, i < 67 → ((whC t ma mf v).toList.take (2 + q + 0) ++ List.replicate c (Value.slice none 0 0) ++ (whC t ma mf v).toList.drop (2 + q + 0 + (List.replicate c (Value.slice none 0 0)).length))[i]? = if 2 + q ≤ i ∧ i < 2 + q + c then some (Value.slice none 0 0) else (whC t ma mf v)[i]? := fun i hi => by
      have hs : (whC t ma mf v).toList.length = 67 := by rw [Array.length_toList, whC_size]
      rw [Nat.add_zero, List.length_replicate, List.append_assoc]
      rcases Nat.lt_or_ge i (2 + q) with h1 | h1
      · rw [List.getElem?_append_left (by rw [List.length_take]; omega), List.getElem?_take_of_lt h1, if_neg (by omega), Array.getElem?_toList]
      · rw [List.getElem?_append_right (by rw [List.length_take]; omega)]
        have e3 : ((whC t ma mf v).toList.take (2 + q)).length = 2 + q := by rw [List.length_take]; omega
        rw [e3]
        rcases Nat.lt_or_ge i (2 + q + c) with h2 | h2
        · rw [if_pos ⟨h1, h2⟩, List.getElem?_append_left (by rw [List.length_replicate]; omega), List.getElem?_replicate, if_pos (by omega)]
        · rw [if_neg (by omega), List.getElem?_append_right (by rw [List.length_replicate]; omega), List.length_replicate, List.getElem?_drop, Array.getElem?_toList]
          congr 1
          omega
    refine whC_get ?_ ?_ ?_ (fun j hj => ?_) ?_
    · rw [List.size_toArray, List.length_append, List.length_append, List.length_take, List.length_drop, List.length_replicate, Array.length_toList, whC_size]
      omega
    · rw [List.getElem?_toArray, hcell 0 (by omega), if_neg (by omega), wh0]
    · rw [List.getElem?_toArray, hcell 1 (by omega), if_neg (by omega), wh1]
    · rw [List.getElem?_toArray, hcell (2 + j) (by omega)]
      unfold clr
      by_cases h1 : q ≤ j ∧ j < q + c
      · rw [if_pos (by omega), if_pos h1]
      · rw [if_neg (by omega), if_neg h1, whk t ma mf v hj]
    · rw [List.getElem?_toArray, hcell 66 (by omega), if_neg (by omega), wh66]
  rw [e2] at hst
  obtain ⟨c', rfl⟩ : ∃ c', c = c' + 1 := ⟨c - 1, by omega⟩
  simp [Builtin.clear_, run_underlying Try.underlying86, Try.zeroValue62, hz, hst, Result.andThen]
theorem MemW.clear (h : MemW w g ma mf v sl t L A p) {q c : Nat} (hc : q + c ≤ 64) : MemW (w.setRow g (whC t ma mf (clr v q c (.slice none 0 0)))) g ma mf (clr v q c (.slice none 0 0)) (clr sl q c []) t L A (fun x => p x && !(inR t q c x)) := by
  obtain ⟨q1, q2, q3, q4, q5, q6⟩ := h.part (w' := w.setRow g (whC t ma mf (clr v q c (.slice none 0 0)))) (fun b => b = g) (fun b _ hb => setRow_other _ _ _ _ hb)
  have hout : ∀ k, ¬ (q ≤ k ∧ k < q + c) → A.filter (slP t (fun x => p x && !(inR t q c x)) k) = A.filter (slP t p k) := fun k hk => List.filter_congr fun x _ => by
    by_cases e1 : ix t x.n = k
    · subst e1
      simp [slP, inR, hk]
    · simp [slP, e1]
  have hown : ∀ k b, (clr v q c (.slice none 0 0) k).ownBlock = some b → (v k).ownBlock = some b := fun k b hb => by
    unfold clr at hb
    split at hb
    · cases hb
    · exact hb
  refine { blk := h.blk.row _, am := q2 h.g_m.1.symm, fm := ?_, ne := h.ne, ent := fun a ha => q4 a ha (h.g_e ha).symm, row := fun k hk => ?_, at_ := fun k hk j a ha => ?_, per := fun k hk => ?_, own := fun k k' hk hk' hne b hb hb' => h.own k k' hk hk' hne b (hown k b hb) (hown k' b hb') }
  · rw [hout 64 (by omega)]
    exact q3 h.g_m.2.symm
  · unfold clr
    by_cases h1 : q ≤ k ∧ k < q + c
    · rw [if_pos h1, if_pos h1]
      exact World.ownsRow_nil _ _ _ _
    · rw [if_neg h1, if_neg h1]
      exact q5 k hk (fun b hb => h.r_g hk hb)
  · unfold clr at ha
    by_cases h1 : q ≤ k ∧ k < q + c
    · rw [if_pos h1] at ha
      simp at ha
    · rw [if_neg h1] at ha
      exact q6 k hk j a ha (h.g_e ((h.in_sl hk).1 (List.mem_of_getElem? ha)).1).symm
  · unfold clr
    by_cases h1 : q ≤ k ∧ k < q + c
    · have hnil : A.filter (slP t (fun x => p x && !(inR t q c x)) k) = [] := List.filter_eq_nil_iff.2 fun x _ hx => by
        simp only [slP, inR, Bool.and_eq_true, Bool.not_eq_true', decide_eq_true_iff, decide_eq_false_iff_not] at hx
        omega
      rw [if_pos h1, hnil]
    · rw [if_neg h1, hout k h1]
      exact h.per k hk
theorem clr_foot {q c b : Nat} : Foot g ma mf (clr v q c (.slice none 0 0)) A b → Foot g ma mf v A b := by
  rintro (h1 | h1 | h1 | h1 | ⟨j, hj, h1⟩)
  · exact .inl h1
  · exact .inr (.inl h1)
  · exact .inr (.inr (.inl h1))
  · exact .inr (.inr (.inr (.inl h1)))
  · refine .inr (.inr (.inr (.inr ⟨j, hj, ?_⟩)))
    unfold clr at h1
    split at h1
    · cases h1
    · exact h1
abbrev rowP (v : Value) (l : List En) : Sp.Item := rowS 75 1 v l.length (l.map En.ptr)
set_option maxHeartbeats 4000000 in
theorem empty_any (h : Sp.Sep W w items) (hk : items[k]? = some (wI g t L A p)) (hA : AOk A) {q c cp : Nat} (hc : q + c ≤ 64) (h0 : 0 < c) :
    Calls Try.prog 38 #[.slice (some ⟨g, 2 + q, none⟩) c cp] w fun e w' => ∃ v l, e = .returned v ∧ l.Perm (A.filter (fun x => p x && inR t q c x)) ∧ Sp.Sep W w' (items.set k (wI g t L A (fun x => p x && !(inR t q c x))) ++ [rowP v l]) := by
  obtain ⟨ma, mf, v, sl, hM, _⟩ := wI_take h hk
  have HC := Lib.hid (concat_any (w := w) (g := g) (o := 2 + q) (c := c) (cp := cp) (f := fun i => v (q + i)) (ls := fun i => sl (q + i)) (by omega) (fun i hi => by rw [show 2 + q + i = 2 + (q + i) by omega]; exact (hM.blk.cell _).trans (whk _ _ _ _ (by omega))) (fun i hi => hM.row (q + i) (by omega)) (fun i hi => hM.len hA.n (by omega)))
  have HP := Lib.hid (cat_perm hM q c hc)
  have HS := Lib.hid h
  have HK := Lib.hid hk
  have H0 := Lib.hid h0
  have HCC := Lib.hid hc
  have HM := Lib.hid hM
  generalize catL (fun i => sl (q + i)) c = l at *
  clear h hk hM h0 hc
  go_enter Try.func38, Try.ntmps38
  go_upto_region 2 with (go_at_call 44; refine HC.out.mono ?_; rintro e3 w3 ⟨v3, rfl, h3, hb3⟩; have H3 := Lib.hid h3; have HB3 := Lib.hid hb3; clear h3 hb3)
  have S3 := HS.out.new (rowP v3 l) (G := fun b => v3.ownBlock = some b) ⟨own_base H3.out (Nat.zero_le _), fun _ => Iff.rfl⟩ (fun b hb => (H3.out.lt b hb).1) HB3.out
  have hk3 : (items ++ [rowP v3 l])[k]? = some (wI g t L A p) := by
    rw [List.getElem?_append_left (List.getElem?_eq_some_iff.1 HK.out).1]
    exact HK.out
  obtain ⟨ma3, mf3, v4, sl4, hM3, put3⟩ := wI_take S3 hk3
  have hcl := run_clear hM3.blk (cp := cp) HCC.out H0.out
  have S4 := put3 _ _ _ _ _ _ _ (hM3.clear HCC.out) ((Only.refl _ _).setRow (.inl (.inl rfl)) _) (fun b hb => .inl (clr_foot hb))
  rw [List.set_append_left _ _ (List.getElem?_eq_some_iff.1 HK.out).1] at S4
  have H4 := Lib.hid S4
  clear S3 hk3 hM3 put3 S4
  go_wp2_with (refine wp_clear 86 rfl (.tmp 6) rfl _ rfl hcl ?_)
  go_ret
  exact ⟨_, _, rfl, HP.out, H4.out⟩
end
end Go.Proofs.Ytogfpakopckfoaa.Wl
