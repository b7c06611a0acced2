/- The program's leaveFar: those that are not far any more are taken out of the map while it is ranged over. -/
import Derived.Test.YtogfpakopckfoaaWpN
import Derived.Maps.RangeWalk
namespace Go.Proofs.Ytogfpakopckfoaa.Wl
open Go.RowKit Go.Lib Go.Maps
open Sp
set_option linter.unusedVariables false
set_option maxRecDepth 100000

abbrev rngs (w : World) (mf r : Nat) (D : DataW Nat) (left : Lit → Bool) (cnt : Nat) : Prop := w.ranges Try.prog 9 ptrR mf r 400 D left cnt
theorem rngs_same {w w' : World} {mf r : Nat} {D : DataW Nat} {left : Lit → Bool} {cnt : Nat} (h : rngs w mf r D left cnt) (h1 : w'.heap[mf]? = w.heap[mf]?) (h2 : w'.heap[r]? = w.heap[r]?) : rngs w' mf r D left cnt := by
  obtain ⟨es, clock, since, seen, c0, hb, F, hs, hD, hr, rest⟩ := h
  exact ⟨es, clock, since, seen, c0, h1.trans hb, F, hs, hD, h2.trans hr, rest⟩
/-- The wheel, and what ranges over its far ones. -/
def wR (g ma mf : Nat) (v : Nat → Value) (sl : Nat → List En) (t : Nat) (L A : List En) (p : En → Bool) (r : Nat) (D : DataW Nat) (left : Lit → Bool) (cnt : Nat) : Sp.Item :=
  ⟨fun w G => MemW w g ma mf v sl t L A p ∧ rngs w mf r D left cnt ∧ ∀ b, G b ↔ Foot g ma mf v A b ∨ b = r,
   fun ⟨h, hr, hG⟩ hs _ => ⟨h.same (fun b hb => hs b ((hG b).2 (.inl hb))), rngs_same hr (hs mf ((hG mf).2 (.inl (.inr (.inr (.inl rfl)))))) (hs r ((hG r).2 (.inr rfl))), hG⟩,
   fun ⟨h, hr, hG⟩ b hb => ((hG b).1 hb).elim (h.lt b) (fun e => by rw [e]; exact hr.lt)⟩
/-- Not far any more at n. -/
abbrev frr (t n : Nat) (x : En) : Bool := decide (ix t x.n = 64) && decide (ix n x.n < 64)
theorem rngs_iter {w : World} {mf r : Nat} {D : DataW Nat} {left : Lit → Bool} {cnt : Nat} (h : rngs w mf r D left cnt) : ∃ a b c d, w.heap[r]? = some (.mapIter a b c d) := by
  obtain ⟨es, clock, since, seen, c0, hb, F, hs, hD, hr, rest⟩ := h
  exact ⟨_, _, _, _, hr⟩
def ptrV : Option Nat → Value
  | none => .pointer none
  | some b => .pointer (some ⟨b, 0, none⟩)
theorem ptrV_inv {v : Value} {y : DataW Nat × List MemPlace} (h : ptrR v = some y) : ∃ c, v = ptrV c := by
  unfold ptrR at h
  split at h
  · exact ⟨none, rfl⟩
  · exact ⟨some _, rfl⟩
  · cases h
section
variable {W w w' : World} {items I : List Sp.Item} {k g t n ma mf r : Nat} {v : Nat → Value} {sl : Nat → List En} {l : List En} {L A : List En} {p : En → Bool} {e : En} {D : DataW Nat} {left : Lit → Bool} {cnt : Nat}
theorem set_last {x y : Sp.Item} {J : List Sp.Item} {N : Nat} (h : J.length = N) : (J ++ [x]).set N y = J ++ [y] := by
  rw [← h, List.set_append_right _ _ (Nat.le_refl _)]
  simp
theorem get_last {x : Sp.Item} {J : List Sp.Item} {N : Nat} (h : J.length = N) : (J ++ [x])[N]? = some x := by
  rw [← h, List.getElem?_append_right (Nat.le_refl _)]
  simp
/-- The ranging begins. -/
theorem wR_start (h : Sp.Sep W w items) (hk : items[k]? = some (wI g t L A p)) : ∃ ma mf v sl, ∃ D, MemW w g ma mf v sl t L A p ∧ w.ownsMap Try.prog 9 ptrR mf (A.filter (slP t p 64)).length D ∧ MD D (A.filter (slP t p 64)) ∧
    ∀ w' r, w.heap.size ≤ r → r < w'.heap.size → rngs w' mf r D (Maps.has D) (Maps.size D) → w.grownBy w' none → Sp.Sep W w' (items.set k (wR g ma mf v sl t L A p r D (Maps.has D) (Maps.size D))) := by
  obtain ⟨G, ⟨ma, mf, v, sl, hM, hG⟩, _, _, put⟩ := h.at_ k hk
  obtain ⟨D, hD, hMD⟩ := hM.fm
  refine ⟨ma, mf, v, sl, D, hM, hD, hMD, fun w' r hr hr2 hrg hg => ?_⟩
  refine put w' (fun b => Foot g ma mf v A b ∨ b = r) (wR g ma mf v sl t L A p r D (Maps.has D) (Maps.size D)) ⟨hM.same (fun b hb => hg.block b (hM.lt b hb) (by simp)), hrg, fun b => Iff.rfl⟩ (fun b hb => ?_) ((Only.refl _ _).grown hg (fun q hq => by cases hq))
  rcases hb with h1 | h1
  · exact .inl ((hG b).2 h1)
  · exact .inr (by omega)
theorem wR_end (h : Sp.Sep W w items) (hk : items[k]? = some (wR g ma mf v sl t L A p r D left cnt)) : Sp.Sep W w (items.set k (wI g t L A p)) := by
  obtain ⟨G, ⟨hM, hr, hG⟩, _, _, put⟩ := h.at_ k hk
  exact put w (Foot g ma mf v A) (wI g t L A p) ⟨ma, mf, v, sl, hM, fun b => Iff.rfl⟩ (fun b hb => .inl ((hG b).2 (.inl hb))) (Only.refl _ _)
theorem wR_congr (h : Sp.Sep W w items) (hk : items[k]? = some (wR g ma mf v sl t L A p r D left cnt)) {p' : En → Bool} (hp : ∀ x ∈ A, p' x = p x) : Sp.Sep W w (items.set k (wR g ma mf v sl t L A p' r D left cnt)) := by
  obtain ⟨G, ⟨hM, hr, hG⟩, _, _, put⟩ := h.at_ k hk
  exact put w G (wR g ma mf v sl t L A p' r D left cnt) ⟨hM.congr hp, hr, hG⟩ (Grew.refl _ _) (Only.refl _ _)
theorem wR_at (h : Sp.Sep W w items) (hk : items[k]? = some (wR g ma mf v sl t L A p r D left cnt)) : MemW w g ma mf v sl t L A p ∧ rngs w mf r D left cnt ∧ MD D (A.filter (slP t p 64)) ∧
    (∀ w' left' cnt', rngs w' mf r D left' cnt' → w.grownBy w' (some r) → Sp.Sep W w' (items.set k (wR g ma mf v sl t L A p r D left' cnt'))) ∧
    (∀ w' D' left' cnt' p', rngs w' mf r D' left' cnt' → w.mapTurned w' mf → MD D' (A.filter (slP t p' 64)) → (∀ q, q < 64 → A.filter (slP t p' q) = A.filter (slP t p q)) → Sp.Sep W w' (items.set k (wR g ma mf v sl t L A p' r D' left' cnt'))) := by
  obtain ⟨G, ⟨hM, hr, hG⟩, _, _, put⟩ := h.at_ k hk
  have hrf : ∀ b, Foot g ma mf v A b → b ≠ r := by
    obtain ⟨a1, a2, a3, a4, hit⟩ := rngs_iter hr
    have hb : ∀ b T cs, Sp.Blk w b T cs → b ≠ r := fun b T cs h1 e1 => by
      subst e1
      have := h1.symm.trans hit
      cases this
    rintro b (rfl | rfl | rfl | ⟨e, he, rfl⟩ | ⟨q, hq, hb1⟩)
    · exact hb _ _ _ hM.blk
    · obtain ⟨es, c, h1⟩ := hM.am.is
      rintro rfl
      have := h1.symm.trans hit
      cases this
    · exact hr.ne.symm
    · obtain ⟨z, _, hz⟩ := hM.ent e he
      exact hb _ _ _ hz
    · obtain ⟨cur, h2⟩ := row_blk (hM.row q hq) hb1
      exact hb _ _ _ h2
  have hMD : MD D (A.filter (slP t p 64)) := by
    obtain ⟨D2, ⟨es2, c2, g1, _, _, g2⟩, g3⟩ := hM.fm
    obtain ⟨es, clock, since, seen, c0, hb, F, hs, hD, _⟩ := hr
    have := g1.symm.trans hb
    simp at this
    obtain ⟨rfl, _⟩ := this
    rw [hD, ← g2]
    exact g3
  refine ⟨hM, hr, hMD, fun w' left' cnt' hr' hg => ?_, fun w' D' left' cnt' p' hr' hg hD' hq => ?_⟩
  · refine put w' G (wR g ma mf v sl t L A p r D left' cnt') ⟨hM.same (fun b hb => hg.block b (hM.lt b hb) (fun e1 => hrf b hb (by injection e1))), hr', hG⟩ (Grew.refl _ _) ((Only.refl _ _).grown hg (fun q hq => ?_))
    injection hq with hq
    subst hq
    exact .inl ((hG _).2 (.inr rfl))
  · obtain ⟨q1, q2⟩ := hM.turned (.inr rfl) hg.grown (L' := L) (p' := p') (hM.am.same (hg.grown.block ma (hM.lt ma (.inr (.inl rfl))) (fun e1 => hM.ne (by injection e1)))) (MapL.mk hr'.owns hD') hq
    exact put w' G (wR g ma mf v sl t L A p' r D' left' cnt') ⟨q1, hr', hG⟩ (Grew.refl _ _) (q2.mono fun b hb => .inl ((hG b).2 (.inl hb)))
end
end Go.Proofs.Ytogfpakopckfoaa.Wl
