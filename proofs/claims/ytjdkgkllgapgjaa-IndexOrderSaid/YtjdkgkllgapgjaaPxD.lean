/- One slot more in a segment's list; a new segment. -/
import Derived.Test.YtjdkgkllgapgjaaPxC
namespace Go.Proofs.Ytjdkgkllgapgjaa.Px
open Go.RowKit Go.Lib Go.Maps
open Re (Rec Key new_cells)
open Ix
open Sp
set_option linter.unusedVariables false
set_option linter.unusedSimpArgs false
set_option maxRecDepth 100000

theorem int_infos : (Try.prog.info? 3).map (fun i => (i.zero, i.size, i.bytes)) = some (some (.int .i64 0), 1, 8) := by kernel_rfl
theorem blk_ty {w : World} {b : Nat} {s t : TypeId} {cs ds : Array Value} (h : Sp.Blk w b s cs) (k : Sp.Blk w b t ds) : s = t := by
  have := h.symm.trans k
  simp at this
  exact this.2
def St.pushS (t : St) (s : Int) (e : Sg) (p : Int) (v : Value) : St := { t with q := up t.q s (some { e with v := v }), sl := up t.sl s (t.sl s ++ [p]) }
def St.newS (t : St) (s : Int) (n : Nat) : St := { t with q := up t.q s (some ⟨n + 1, .slice none 0 0, n⟩), sl := up t.sl s [], sc := up t.sc s (fun _ => none), nn := up t.nn s 0, nl := up t.nl s 0, nz := up t.nz s 0 }
section
variable {W w w' : World} {items : List Sp.Item} {k : Nat} {t : St}
theorem sl_push (h : Sp.Sep W w items) (hk : items[k]? = some (mI t)) {s : Int} {e : Sg} (he : t.q s = some e) (p : Int) (hn : (t.sl s).length ≤ 100000) :
    ∃ v' W5, (Builtin.append_ #[50, 50] 50 #[e.v, .slice (some ⟨w.heap.size, 0, none⟩) 1 1]).run Try.prog (w.alloc (.cells #[.int .i64 p] 3)) = .ok v' W5 ∧ Sp.Blk W5 e.b 63 (sgC t s e) ∧ (∃ A c, v' = .slice A ((t.sl s).length + 1) c) ∧
      Sp.Sep W (W5.setCell ⟨e.b, 0, none⟩ v') (items.set k (mI (t.pushS s e p v'))) := by
  obtain ⟨hM, put⟩ := mI_take h hk
  obtain ⟨i0, hi0, hz0, hz1, hz2⟩ := info_parts int_infos
  have hrow := hM.ok (.r s) e he
  have hbb : ((t.sl s).length + 1) * 8 ≤ 140737488355328 := by omega
  obtain ⟨v5, W5, hrun, own5, g5, _, hat5⟩ := run_append_own_at (P := Try.prog) (w.alloc (.cells #[.int .i64 p] 3)) 0 50 50 3 i0 _ 1 8 Try.underlying50 hi0 hz0 hz1 hz2 rfl (by decide) e.v (t.sl s).length ((t.sl s).map intV) (hrow.alloc _) ⟨w.heap.size, 0, none⟩ 1 1 [.int .i64 p] rfl
    (new_cells w 3 [.int .i64 p]) (by intro u hu; simp only [List.mem_singleton] at hu; subst hu; rfl) (by unfold maxLen; omega) hbb (Nat.zero_le _)
  have hsz : (w.alloc (.cells #[.int .i64 p] 3)).heap.size = w.heap.size + 1 := by simp
  have hsame5 : ∀ b, b < w.heap.size → e.v.ownBlock ≠ some b → W5.heap[b]? = w.heap[b]? := fun b hb hne => (g5.block b (by rw [hsz]; omega) (fun e1 => hne e1.symm)).trans (Below.heap_alloc _ _ _ hb)
  have hab : t.at_ (.b s) = some e.b := by simp [St.at_, he]
  have har : t.at_ (.r s) = e.v.ownBlock := by simp [St.at_, he]
  have hbr : e.v.ownBlock ≠ some e.b := fun e1 => by
    have := hM.inj _ _ _ hab (har.trans e1)
    cases this
  have hBw : Sp.Blk w e.b 63 (sgC t s e) := hM.ok (.b s) e he
  have hB5 : Sp.Blk W5 e.b 63 (sgC t s e) := (hsame5 e.b hBw.lt hbr).trans hBw
  have hv5 : ∀ b, v5.ownBlock = some b → e.v.ownBlock = some b ∨ w.heap.size ≤ b := fun b hb => by
    rcases hat5 with e1 | e1
    · left; rw [← e1]; exact hb
    · right; rw [e1] at hb; injection hb with hb; rw [hsz] at hb; omega
  obtain ⟨hc1, hc2⟩ := grown_cell hB5 0 v5
  have own6 : (W5.setCell ⟨e.b, 0, none⟩ v5).ownsRow 0 3 1 v5 ((t.sl s).length + 1) ((t.sl s).map intV ++ [.int .i64 p]) := own_same own5 fun b hb => by
    refine hc1.block b (own5.lt b hb).2 fun e1 => ?_
    injection e1 with e1
    subst e1
    rcases hv5 _ hb with h1 | h1
    · exact hbr h1
    · have := hBw.lt; omega
  obtain ⟨A5, c5, hA5⟩ := row_at own5
  have hq : ∀ s', s' ≠ s → up t.q s (some { e with v := v5 }) s' = t.q s' := fun s' hs' => up_ne hs'
  obtain ⟨q1, q2⟩ := hM.turn (t' := { t with q := up t.q s (some { e with v := v5 }), sl := up t.sl s (t.sl s ++ [p]) }) (w' := W5.setCell ⟨e.b, 0, none⟩ v5) (fun r => r = .b s ∨ r = .r s)
    (fun r hr => by
      cases r with
      | b s' => simp only [St.at_]; rw [hq s' fun e1 => hr (by rw [e1]; simp)]
      | m s' =>
        simp only [St.at_]
        by_cases e1 : s' = s
        · subst e1; rw [up_at, he]; rfl
        · rw [hq s' e1]
      | r s' => simp only [St.at_]; rw [hq s' fun e1 => hr (by rw [e1]; simp)]
      | _ => rfl)
    (fun r hr hc => by
      cases r with
      | s =>
        refine MF.ext hc fun x => ?_
        unfold iF
        split
        · rename_i s'
          by_cases e1 : s' = s
          · subst e1; simp only [up_at, he]; rfl
          · simp only [hq s' e1]
        · rfl
      | b s' =>
        have hne : s' ≠ s := fun e1 => hr (by rw [e1]; simp)
        intro e' he'
        simp only [hq s' hne] at he'
        exact hc e' he'
      | m s' =>
        intro e' he'
        by_cases e1 : s' = s
        · subst e1
          simp only [up_at] at he'
          injection he' with he'
          subst he'
          exact hc e he
        · simp only [hq s' e1] at he'
          exact hc e' he'
      | r s' =>
        have hne : s' ≠ s := fun e1 => hr (by rw [e1]; simp)
        intro e' he'
        simp only [hq s' hne] at he'
        show World.ownsRow _ _ _ _ _ (up t.sl s _ s').length ((up t.sl s _ s').map intV)
        rw [up_ne hne]
        exact hc e' he'
      | _ => exact hc)
    (fun b hb hr => by
      have h1 : e.b ≠ b := fun e1 => hr (.b s) (.inl rfl) (by rw [hab, e1])
      have h2 : e.v.ownBlock ≠ some b := fun e1 => hr (.r s) (.inr rfl) (by rw [har, e1])
      have hle : w.heap.size ≤ W5.heap.size := by have := g5.size; rw [hsz] at this; omega
      exact (hc1.block b (by omega) (fun e1 => h1 (by injection e1 with e1; exact e1.symm))).trans (hsame5 b hb h2))
    (fun r hr => by
      rcases hr with rfl | rfl
      · intro e' he'
        simp only [up_at] at he'
        injection he' with he'
        subst he'
        exact hc2
      · intro e' he'
        simp only [up_at] at he'
        injection he' with he'
        subst he'
        show World.ownsRow _ _ _ _ _ (up t.sl s _ s).length ((up t.sl s _ s).map intV)
        rw [up_at, List.length_append, List.map_append]
        exact own6)
    (fun r b hr e1 => by
      rcases hr with rfl | rfl
      · left
        simp only [St.at_, up_at] at e1
        rw [hab]
        exact e1
      · simp only [St.at_, up_at] at e1
        rw [har]
        exact hv5 b e1)
    (fun r r' b hr hr' e1 e2 => by
      have hx : ∀ b, ({ t with q := up t.q s (some { e with v := v5 }), sl := up t.sl s (t.sl s ++ [p]) } : St).at_ (.b s) = some b → ({ t with q := up t.q s (some { e with v := v5 }), sl := up t.sl s (t.sl s ++ [p]) } : St).at_ (.r s) ≠ some b := fun b h1 h2 => by
        simp only [St.at_, up_at] at h1 h2
        injection h1 with h1
        subst h1
        rcases hv5 _ h2 with h3 | h3
        · exact hbr h3
        · have := hBw.lt; simp only at h3; omega
      rcases hr with rfl | rfl <;> rcases hr' with rfl | rfl
      · rfl
      · exact absurd e2 (hx b e1)
      · exact absurd e1 (hx b e2)
      · rfl)
  refine ⟨v5, W5, hrun, hB5, ⟨A5, c5, hA5⟩, put _ _ q1 ?_ q2⟩
  exact (((Only.refl _ _).alloc _).grown g5 (fun r hr => .inl ⟨.r s, har.trans hr⟩)).setCell (.inl ⟨.b s, hab⟩) _
abbrev sg0 (n : Nat) : Array Value := #[.slice none 0 0, .map (some n), .int .i64 0, .int .i64 0, .int .i64 0]
theorem q_new (h : Sp.Sep W w items) (hk : items[k]? = some (mI t)) {s : Int} (hs : I64 s) (hq : t.q s = none) {L : List Int} (hL : ∀ k, t.q k ≠ none → k ∈ L) (hn : L.length ≤ 100000) :
    ∃ w3, (Instr.mapUpdate tyS (.map (some t.ms)) (.int .i64 s) (.pointer (some ⟨w.heap.size + 1, 0, none⟩))).run Try.prog ((w.alloc (.map #[] 0)).alloc (.cells (sg0 w.heap.size) 63)).drew = .ok () w3 ∧
      Sp.Sep W w3 (items.set k (mI (t.newS s w.heap.size))) := by
  obtain ⟨hM, put⟩ := mI_take h hk
  obtain ⟨n, hnn⟩ : ∃ n, w.heap.size = n := ⟨_, rfl⟩
  rw [hnn]
  have e1 : (w.alloc (.map #[] 0)).heap.size = n + 1 := by rw [← hnn]; simp
  obtain ⟨w2, hw2⟩ : ∃ w2, ((w.alloc (.map #[] 0)).alloc (.cells (sg0 n) 63)).drew = w2 := ⟨_, rfl⟩
  have hb2 : Only t.foot w w2 := by rw [← hw2]; exact (((Only.refl _ _).alloc _).alloc _).drew
  have hB2 : Sp.Blk w2 (n + 1) 63 (sg0 n) := by rw [← hw2]; exact Sp.Blk.at_ _ _ _ e1
  have hm2 : MF w2 9 n (fun _ => none) := by
    rw [← hw2, ← hnn]
    exact (MF.made w 9).same (Below.heap_alloc _ _ _ (by simp))
  have hsz2 : w2.heap.size = n + 2 := by rw [← hw2, ← hnn]; simp [World.drew]
  have hold : ∀ b, b < n → w2.heap[b]? = w.heap[b]? := fun b hb => by
    rw [← hw2]
    exact (Below.heap_alloc _ _ _ (by rw [e1]; omega)).trans (Below.heap_alloc _ _ _ (by omega))
  have hms : t.ms < n := by rw [← hnn]; exact MF.lt (hM.ok .s)
  rw [hw2]
  obtain ⟨w3, hrun, h1, h2⟩ := MF.put (MF.same (hM.ok .s) (hold _ hms)) intK Try.underlying54 (key_int hs) (.pointer (some ⟨n + 1, 0, none⟩)) (iF_supp (map_supp hL)) (by simpa using hn)
  have hB3 : Sp.Blk w3 (n + 1) 63 (sg0 n) := (h2.block (n + 1) (by omega) (fun e2 => by injection e2 with e2; omega)).trans hB2
  have hm3 : MF w3 9 n (fun _ => none) := hm2.same (h2.block n (by omega) (fun e2 => by injection e2 with e2; omega))
  have hq' : ∀ s', s' ≠ s → up t.q s (some ⟨n + 1, .slice none 0 0, n⟩) s' = t.q s' := fun s' hs' => up_ne hs'
  obtain ⟨q1, q2⟩ := hM.turn (t' := { t with q := up t.q s (some ⟨n + 1, .slice none 0 0, n⟩), sl := up t.sl s [], sc := up t.sc s (fun _ => none), nn := up t.nn s 0, nl := up t.nl s 0, nz := up t.nz s 0 }) (w' := w3) (fun r => r = .s ∨ r = .b s ∨ r = .m s ∨ r = .r s)
    (fun r hr => by
      cases r with
      | b s' => simp only [St.at_]; rw [hq' s' fun e1 => hr (by rw [e1]; simp)]
      | m s' => simp only [St.at_]; rw [hq' s' fun e1 => hr (by rw [e1]; simp)]
      | r s' => simp only [St.at_]; rw [hq' s' fun e1 => hr (by rw [e1]; simp)]
      | _ => rfl)
    (fun r hr hc => by
      cases r with
      | s => exact absurd (.inl rfl) hr
      | b s' =>
        have hne : s' ≠ s := fun e1 => hr (by rw [e1]; simp)
        intro e' he'
        simp only [hq' s' hne] at he'
        have := hc e' he'
        simp only [sgC, up_ne hne]
        exact this
      | m s' =>
        have hne : s' ≠ s := fun e1 => hr (by rw [e1]; simp)
        intro e' he'
        simp only [hq' s' hne] at he'
        have := hc e' he'
        simp only [up_ne hne]
        exact this
      | r s' =>
        have hne : s' ≠ s := fun e1 => hr (by rw [e1]; simp)
        intro e' he'
        simp only [hq' s' hne] at he'
        have := hc e' he'
        simp only [up_ne hne]
        exact this
      | _ => exact hc)
    (fun b hb hr => by
      rw [hnn] at hb
      exact (h2.block b (by omega) (fun e2 => hr .s (.inl rfl) (by injection e2 with e2; rw [e2]; rfl))).trans (hold b hb))
    (fun r hr => by
      rcases hr with rfl | rfl | rfl | rfl
      · exact MF.ext h1 fun x => by rw [iF_up]; unfold iF; split <;> first | rfl | exact up_map _ _ _ _ _
      · intro e' he'
        simp only [up_at] at he'
        injection he' with he'
        subst he'
        simp only [sgC, up_at]
        exact hB3
      · intro e' he'
        simp only [up_at] at he'
        injection he' with he'
        subst he'
        simp only [up_at]
        exact MF.ext hm3 fun x => by unfold sF; cases x <;> rfl
      · intro e' he'
        simp only [up_at] at he'
        injection he' with he'
        subst he'
        simp only [up_at]
        exact World.ownsRow_nil _ _ _ _)
    (fun r b hr e2 => by
      rcases hr with rfl | rfl | rfl | rfl
      · exact .inl e2
      · simp only [St.at_, up_at] at e2
        injection e2 with e2
        simp only at e2
        omega
      · simp only [St.at_, up_at] at e2
        injection e2 with e2
        simp only at e2
        omega
      · simp only [St.at_, up_at] at e2
        cases e2)
    (fun r r' b hr hr' e2 e3 => by
      rcases hr with rfl | rfl | rfl | rfl <;> rcases hr' with rfl | rfl | rfl | rfl <;> first | rfl | (simp only [St.at_, up_at, Option.map_some, Option.bind_some, Option.some.injEq] at e2 e3; first | omega | (exfalso; cases e2; done) | (exfalso; cases e3; done) | cases e3))
  refine ⟨w3, hrun, put w3 _ q1 (hb2.grown h2 fun b hb => by injection hb with hb; subst hb; exact .inl ⟨.s, rfl⟩) q2⟩
end
end Go.Proofs.Ytjdkgkllgapgjaa.Px
