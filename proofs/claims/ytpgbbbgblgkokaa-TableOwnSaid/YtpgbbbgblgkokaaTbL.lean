/- Contracts of slices.Delete of one number of a row of the call's own, and of table's Drop; no memory that was there is changed. -/
import Derived.Test.YtpgbbbgblgkokaaTbK
import Derived.Lib.SliceRun
import Derived.Deep.RegionLaw
namespace Go.Proofs.Ytpgbbbgblgkokaa
open Go.RowKit Go.Lib
set_option linter.unusedVariables false

theorem own_head {w : World} {base : Nat} {e : TypeId} {κ : IntKind} {g m p i : Nat} {l : List Int} (h : w.ownsRow base e 1 (.slice (some ⟨g, 0, none⟩) m p) m (iv κ l)) (hi : i ≤ m) : w.ownsRow base e 1 (.slice (some ⟨g, 0, none⟩) i p) i (iv κ (l.take i)) := by
  have hl : m = l.length := by have := h.1; rw [iv_len] at this; omega
  rcases h.2 with ⟨h0, _⟩ | ⟨g', cap, cur, he, hb, hg, hc, hcm, hcs, ht⟩
  · cases h0
  · injection he with he1 he2 he3
    injection he1 with he1
    injection he1 with he1
    subst he1 he3
    refine ⟨by rw [iv_len, List.length_take]; omega, .inr ⟨g, p, cur, rfl, hb, hg, by omega, hcm, hcs, ?_⟩⟩
    rw [Nat.mul_one] at ht ⊢
    unfold iv at ht ⊢
    rw [List.map_take, ← ht, List.take_take, Nat.min_eq_left hi]
theorem own_room {w : World} {base : Nat} {e : TypeId} {g m p : Nat} {xs : List Value} (h : w.ownsRow base e 1 (.slice (some ⟨g, 0, none⟩) m p) m xs) (j : Nat) (hj : j < p) : (w.cell? ⟨g, j, none⟩).isSome = true ∧ w.frozen? ⟨g, j, none⟩ = false := by
  rcases h.2 with ⟨h0, _⟩ | ⟨g', cap, cur, he, hb, hg, hc, hcm, hcs, ht⟩
  · cases h0
  · injection he with he1 he2 he3
    injection he1 with he1
    injection he1 with he1
    subst he1 he3
    rw [Nat.mul_one] at hcs
    exact ⟨by rw [cell_of_row w g j cur e (0, 0) hg, Array.getElem?_eq_getElem (by omega)]; rfl, frozen_of_row w g j cur _ hg⟩
/-- A cell behind a row is written: the row is as it was. -/
theorem own_behind {w : World} {base : Nat} {e : TypeId} {g m p : Nat} {xs : List Value} (h : w.ownsRow base e 1 (.slice (some ⟨g, 0, none⟩) m p) m xs) (j : Nat) (hj : m ≤ j) (u : Value) : (w.setCell ⟨g, j, none⟩ u).ownsRow base e 1 (.slice (some ⟨g, 0, none⟩) m p) m xs := by
  have := (h.stored j u).1
  have hx := h.1
  rwa [List.set_eq_of_length_le (by omega)] at this

/-- The numbers behind place i, moved one place to the left. -/
theorem del_run {κ : IntKind} {e T : TypeId} {z : Value} (hT : Try.prog.underlying T = some (.slice e)) (hI : (Try.prog.info? e).map (fun i => (i.zero, i.size, i.bytes)) = some (some z, 1, 8))
    {W : World} {base g m p i c : Nat} {l : List Int} {A : Addr} (h : W.ownsRow base e 1 (.slice (some ⟨g, 0, none⟩) m p) m (iv κ l)) (hi : i < m) (hA : (p = i + 1 ∧ A = ⟨g, 0, none⟩) ∨ A = ⟨g, i + 1, none⟩) :
    ∃ W5, (∀ ty, (Builtin.append_ #[T, T] ty #[.slice (some ⟨g, 0, none⟩) i p, .slice (some A) (m - (i + 1)) c]).run Try.prog W = .ok (.slice (some ⟨g, 0, none⟩) (m - 1) p) W5) ∧
      W5.ownsRow base e 1 (.slice (some ⟨g, 0, none⟩) (m - 1) p) (m - 1) (iv κ (l.eraseIdx i)) ∧ W.grownBy W5 (some g) ∧ g < W5.heap.size := by
  obtain ⟨i0, hi0, hz0, hz1, hz2⟩ := info_of hI
  have hl : m = l.length := by have := h.1; rw [iv_len] at this; omega
  have hmp := own_cap h
  have hc := h.cellAt
  obtain ⟨W5, hrun, own5, g5⟩ := run_append_fits (P := Try.prog) W base T T e i0 1 hT hi0 hz1 g i p (iv κ (l.take i)) (own_head h (by omega)) A (m - (i + 1)) c (iv κ (l.drop (i + 1))) (by rw [iv_len, List.length_drop]; omega)
    (fun j u hu => by
      have hj : j < m - (i + 1) := by
        have := (List.getElem?_eq_some_iff.1 hu).1
        rw [iv_len, List.length_drop] at this
        omega
      rcases hA with ⟨hp, _⟩ | rfl
      · omega
      · rw [Addr.add_mid, hc (i + 1 + j) (by omega), ← hu]
        unfold iv
        rw [List.map_drop, List.getElem?_drop])
    (iv_one κ _) (by omega)
  have e1 : i + (m - (i + 1)) = m - 1 := by omega
  rw [e1] at hrun own5
  have e2 : iv κ (l.take i) ++ iv κ (l.drop (i + 1)) = iv κ (l.eraseIdx i) := by
    unfold iv
    rw [← List.map_append, List.eraseIdx_eq_take_drop_succ]
  rw [e2] at own5
  exact ⟨W5, fun ty => hrun, own5, g5, by have := (h.lt g rfl).2; have := g5.size; omega⟩

/-- What a row less one number is. -/
def DelP (κ : IntKind) (e : TypeId) (base g m p i : Nat) (l : List Int) (w : World) (en : Ending) (w' : World) : Prop :=
  en = .returned (.slice (some ⟨g, 0, none⟩) (m - 1) p) ∧ w'.ownsRow base e 1 (.slice (some ⟨g, 0, none⟩) (m - 1) p) (m - 1) (iv κ (l.eraseIdx i)) ∧ w.grownBy w' (some g)

set_option maxHeartbeats 2000000 in
theorem del_i (base g m p i : Nat) (l : List Int) (w : World) (h : w.ownsRow base 3 1 (.slice (some ⟨g, 0, none⟩) m p) m (iv .i64 l)) (hi : i < m) (hm : m ≤ 1000) :
    Calls Try.prog 48 #[.slice (some ⟨g, 0, none⟩) m p, .int .i64 (i : Int), .int .i64 ((i : Int) + 1)] w (DelP .i64 3 base g m p i l w) := by
  have hmp := own_cap h
  have hpm : p ≤ maxLen := by
    rcases h.2 with ⟨h0, _⟩ | ⟨g', cap, cur, he, hb, hg, hc, hcm, hcs, ht⟩
    · cases h0
    · injection he with _ _ he3
      omega
  unfold maxLen at hpm
  have hj : (i : Int) + 1 = ((i + 1 : Nat) : Int) := by omega
  rw [hj]
  have hgs : g < w.heap.size := (h.lt g rfl).2
  obtain ⟨A, hA1, hA2⟩ : ∃ A : Addr, (if p = i + 1 then some (⟨g, 0, none⟩ : Addr) else some ⟨g, i + 1, none⟩) = some A ∧ ((p = i + 1 ∧ A = ⟨g, 0, none⟩) ∨ A = ⟨g, i + 1, none⟩) := by
    by_cases hc : p = i + 1
    · exact ⟨_, if_pos hc, .inl ⟨hc, rfl⟩⟩
    · exact ⟨_, if_neg hc, .inr rfl⟩
  obtain ⟨W5, hrun, own5, g5, hg5⟩ := del_run (T := 25) (c := p - (i + 1)) Try.underlying25 infoI (own_later h (below_drawn w)) hi hA2
  obtain ⟨M, HM⟩ : ∃ M, Hid (m - 1 = M) := ⟨_, Lib.hid rfl⟩
  rw [HM.out] at hrun own5
  have hM : m = M + 1 := by have := HM.out; omega
  have room := own_room own5 M (by omega)
  have hcl : ∀ ty, (Builtin.clear_ #[25] ty #[.slice (some ⟨g, M, none⟩) (m - M) (p - M)]).run Try.prog W5 = .ok (.tuple #[]) (W5.setCell ⟨g, M, none⟩ (.int .i64 0)) := fun ty => by
    have := run_clear_slice (P := Try.prog) W5 25 3 ty (.int .i64 0) Try.underlying25 Try.zeroValue3 rfl rfl g M (m - M) (p - M) (by omega)
      (fun t ht => by obtain rfl : t = 0 := by omega
                      exact room.1) (fun t ht => by obtain rfl : t = 0 := by omega
                                                    exact room.2)
    rw [this, show m - M = 1 by omega]
    rfl
  have HO : Hid ((W5.setCell ⟨g, M, none⟩ (.int .i64 0)).ownsRow base 3 1 (.slice (some ⟨g, 0, none⟩) M p) M (iv .i64 (l.eraseIdx i))) := Lib.hid (own_behind own5 M (Nat.le_refl _) _)
  have HG : Hid (w.grownBy (W5.setCell ⟨g, M, none⟩ (.int .i64 0)) (some g)) := Lib.hid (by
    have e0 : w.grownBy w.drew (some g) := ⟨rfl, rfl, rfl, Nat.le_refl _, fun _ _ _ => rfl⟩
    exact (e0.trans g5).trans (grown_set W5 g M (.int .i64 0)))
  have HR := Lib.hid hrun
  have h2 : (m : Int) ≤ (p : Int) := by omega
  have h7 : (i : Int) + 1 ≤ (m : Int) := by omega
  have h8 : 0 ≤ (i : Int) + 1 := by omega
  have h9 : (i : Int) + 1 ≤ (p : Int) := by omega
  have h3 : ((i : Int) == (i : Int) + 1) = false := by simp; omega
  have h5 : (i : Int) ≤ (p : Int) := by omega
  have q1 : (M : Int) ≤ (m : Int) := by omega
  have q2 : ¬ p = M := by omega
  have q3 : (M : Int) ≤ (p : Int) := by omega
  clear hrun own5 g5 room h hj hM
  rw [← show (i : Int) + 1 = ((i + 1 : Nat) : Int) by omega]
  go_enter Try.func48, Try.ntmps48
  go_wp2_with fail
  go_region_law (refine step_append_run rfl (.tmp 22) (.tmp 25) 25 rfl _ _ rfl rfl HR.out ?_)
  go_wp2_with fail
  go_ret
  exact ⟨by rw [HM.out]; rfl, by rw [HM.out]; exact HO.out, HG.out⟩

set_option maxHeartbeats 2000000 in
theorem del_u (base g m p i : Nat) (l : List Int) (w : World) (h : w.ownsRow base 23 1 (.slice (some ⟨g, 0, none⟩) m p) m (iv .u64 l)) (hi : i < m) (hm : m ≤ 1000) :
    Calls Try.prog 49 #[.slice (some ⟨g, 0, none⟩) m p, .int .i64 (i : Int), .int .i64 ((i : Int) + 1)] w (DelP .u64 23 base g m p i l w) := by
  have hmp := own_cap h
  have hpm : p ≤ maxLen := by
    rcases h.2 with ⟨h0, _⟩ | ⟨g', cap, cur, he, hb, hg, hc, hcm, hcs, ht⟩
    · cases h0
    · injection he with _ _ he3
      omega
  unfold maxLen at hpm
  have hj : (i : Int) + 1 = ((i + 1 : Nat) : Int) := by omega
  rw [hj]
  have hgs : g < w.heap.size := (h.lt g rfl).2
  obtain ⟨A, hA1, hA2⟩ : ∃ A : Addr, (if p = i + 1 then some (⟨g, 0, none⟩ : Addr) else some ⟨g, i + 1, none⟩) = some A ∧ ((p = i + 1 ∧ A = ⟨g, 0, none⟩) ∨ A = ⟨g, i + 1, none⟩) := by
    by_cases hc : p = i + 1
    · exact ⟨_, if_pos hc, .inl ⟨hc, rfl⟩⟩
    · exact ⟨_, if_neg hc, .inr rfl⟩
  obtain ⟨W5, hrun, own5, g5, hg5⟩ := del_run (T := 26) (c := p - (i + 1)) Try.underlying26 infoU (own_later h (below_drawn w)) hi hA2
  obtain ⟨M, HM⟩ : ∃ M, Hid (m - 1 = M) := ⟨_, Lib.hid rfl⟩
  rw [HM.out] at hrun own5
  have hM : m = M + 1 := by have := HM.out; omega
  have room := own_room own5 M (by omega)
  have hcl : ∀ ty, (Builtin.clear_ #[26] ty #[.slice (some ⟨g, M, none⟩) (m - M) (p - M)]).run Try.prog W5 = .ok (.tuple #[]) (W5.setCell ⟨g, M, none⟩ (.int .u64 0)) := fun ty => by
    have := run_clear_slice (P := Try.prog) W5 26 23 ty (.int .u64 0) Try.underlying26 Try.zeroValue23 rfl rfl g M (m - M) (p - M) (by omega)
      (fun t ht => by obtain rfl : t = 0 := by omega
                      exact room.1) (fun t ht => by obtain rfl : t = 0 := by omega
                                                    exact room.2)
    rw [this, show m - M = 1 by omega]
    rfl
  have HO : Hid ((W5.setCell ⟨g, M, none⟩ (.int .u64 0)).ownsRow base 23 1 (.slice (some ⟨g, 0, none⟩) M p) M (iv .u64 (l.eraseIdx i))) := Lib.hid (own_behind own5 M (Nat.le_refl _) _)
  have HG : Hid (w.grownBy (W5.setCell ⟨g, M, none⟩ (.int .u64 0)) (some g)) := Lib.hid (by
    have e0 : w.grownBy w.drew (some g) := ⟨rfl, rfl, rfl, Nat.le_refl _, fun _ _ _ => rfl⟩
    exact (e0.trans g5).trans (grown_set W5 g M (.int .u64 0)))
  have HR := Lib.hid hrun
  have h2 : (m : Int) ≤ (p : Int) := by omega
  have h7 : (i : Int) + 1 ≤ (m : Int) := by omega
  have h8 : 0 ≤ (i : Int) + 1 := by omega
  have h9 : (i : Int) + 1 ≤ (p : Int) := by omega
  have h3 : ((i : Int) == (i : Int) + 1) = false := by simp; omega
  have h5 : (i : Int) ≤ (p : Int) := by omega
  have q1 : (M : Int) ≤ (m : Int) := by omega
  have q2 : ¬ p = M := by omega
  have q3 : (M : Int) ≤ (p : Int) := by omega
  clear hrun own5 g5 room h hj hM
  rw [← show (i : Int) + 1 = ((i + 1 : Nat) : Int) by omega]
  go_enter Try.func49, Try.ntmps49
  go_wp2_with fail
  go_region_law (refine step_append_run rfl (.tmp 22) (.tmp 25) 26 rfl _ _ rfl rfl HR.out ?_)
  go_wp2_with fail
  go_ret
  exact ⟨by rw [HM.out]; rfl, by rw [HM.out]; exact HO.out, HG.out⟩
end Go.Proofs.Ytpgbbbgblgkokaa
