/- The program's index in memory: its struct, its four maps, its segments; what stays when one part of it is turned. -/
import Derived.Test.YtjdkgkllgapgjaaPxA
namespace Go.Proofs.Ytjdkgkllgapgjaa.Px
open Go.RowKit Go.Lib Go.Maps
open Re (Rec Key)
open Ix
open Sp
set_option linter.unusedVariables false
set_option maxRecDepth 100000

structure Sg where
  b : Nat
  v : Value
  m : Nat
structure St where
  g : Nat
  mp : Nat
  ms : Nat
  mc : Nat
  mn : Nat
  fp : Lit → Option Value
  q : Int → Option Sg
  sl : Int → List Int
  sc : Int → Key → Option Int
  fc : Key → Option Int
  nw : Key → Option Nw
  nn : Int → Int
  nl : Int → Int
  nz : Int → Int
  lv : Int
inductive Role
  | g
  | p
  | s
  | c
  | n
  | b (s : Int)
  | m (s : Int)
  | r (s : Int)
def St.at_ (t : St) : Role → Option Nat
  | .g => some t.g
  | .p => some t.mp
  | .s => some t.ms
  | .c => some t.mc
  | .n => some t.mn
  | .b s => (t.q s).map Sg.b
  | .m s => (t.q s).map Sg.m
  | .r s => (t.q s).bind fun e => e.v.ownBlock
abbrev ixC (t : St) : Array Value := #[.map (some t.mp), .map (some t.ms), .map (some t.mc), .map (some t.mn), .int .i64 t.lv]
abbrev sgC (t : St) (s : Int) (e : Sg) : Array Value := #[e.v, .map (some e.m), .int .i64 (t.nn s), .int .i64 (t.nl s), .int .i64 (t.nz s)]
def Sg.ptr (e : Sg) : Value := .pointer (some ⟨e.b, 0, none⟩)
def enV (a : Nw) : Value := .agg (enA a)
def intV (n : Int) : Value := .int .i64 n
def St.comp (t : St) (w : World) : Role → Prop
  | .g => Sp.Blk w t.g 58 (ixC t)
  | .p => MF w 32 t.mp t.fp
  | .s => MF w 3 t.ms (iF fun s => (t.q s).map Sg.ptr)
  | .c => MF w 9 t.mc (sF fun k => (t.fc k).map intV)
  | .n => MF w 9 t.mn (sF fun k => (t.nw k).map enV)
  | .b s => ∀ e, t.q s = some e → Sp.Blk w e.b 63 (sgC t s e)
  | .m s => ∀ e, t.q s = some e → MF w 9 e.m (sF fun k => (t.sc s k).map intV)
  | .r s => ∀ e, t.q s = some e → w.ownsRow 0 3 1 e.v (t.sl s).length ((t.sl s).map intV)
structure MemX (w : World) (t : St) : Prop where
  ok : ∀ r, t.comp w r
  inj : ∀ r r' b, t.at_ r = some b → t.at_ r' = some b → r = r'
def St.foot (t : St) (b : Nat) : Prop := ∃ r, t.at_ r = some b
section
variable {w w' : World} {t t' : St}
theorem comp_same {r : Role} (h : t.comp w r) (hs : ∀ b, t.at_ r = some b → w'.heap[b]? = w.heap[b]?) : t.comp w' r := by
  cases r with
  | g => exact (hs _ rfl).trans h
  | p => exact MF.same h (hs _ rfl)
  | s => exact MF.same h (hs _ rfl)
  | c => exact MF.same h (hs _ rfl)
  | n => exact MF.same h (hs _ rfl)
  | b s => intro e he; exact (hs e.b (by simp [St.at_, he])).trans (h e he)
  | m s => intro e he; exact (h e he).same (hs e.m (by simp [St.at_, he]))
  | r s => intro e he; exact own_same (h e he) (fun b hb => hs b (by simp [St.at_, he, hb]))
theorem MemX.lt (h : MemX w t) : ∀ b, t.foot b → b < w.heap.size := by
  rintro b ⟨r, hr⟩
  have h1 := h.ok r
  cases r with
  | g => injection hr with hr; subst hr; exact Sp.Blk.lt h1
  | p => injection hr with hr; subst hr; exact MF.lt h1
  | s => injection hr with hr; subst hr; exact MF.lt h1
  | c => injection hr with hr; subst hr; exact MF.lt h1
  | n => injection hr with hr; subst hr; exact MF.lt h1
  | b s =>
    simp only [St.at_, Option.map_eq_some_iff] at hr
    obtain ⟨e, he, rfl⟩ := hr
    exact Sp.Blk.lt (h1 e he)
  | m s =>
    simp only [St.at_, Option.map_eq_some_iff] at hr
    obtain ⟨e, he, rfl⟩ := hr
    exact MF.lt (h1 e he)
  | r s =>
    simp only [St.at_, Option.bind_eq_some_iff] at hr
    obtain ⟨e, he, hb⟩ := hr
    exact ((h1 e he).lt b hb).2
theorem MemX.same (h : MemX w t) (hs : ∀ b, t.foot b → w'.heap[b]? = w.heap[b]?) : MemX w' t := ⟨fun r => comp_same (h.ok r) (fun b hb => hs b ⟨r, hb⟩), h.inj⟩
theorem MemX.turn (h : MemX w t) (ch : Role → Prop) (hat : ∀ r, ¬ ch r → t'.at_ r = t.at_ r) (hcomp : ∀ r, ¬ ch r → t.comp w' r → t'.comp w' r)
    (hs : ∀ b, b < w.heap.size → (∀ r, ch r → t.at_ r ≠ some b) → w'.heap[b]? = w.heap[b]?) (hnew : ∀ r, ch r → t'.comp w' r)
    (hat' : ∀ r b, ch r → t'.at_ r = some b → t.at_ r = some b ∨ w.heap.size ≤ b) (hinj : ∀ r r' b, ch r → ch r' → t'.at_ r = some b → t'.at_ r' = some b → r = r') :
    MemX w' t' ∧ ∀ b, t'.foot b → t.foot b ∨ w.heap.size ≤ b := by
  have hmix : ∀ r r' b, ch r → ¬ ch r' → t'.at_ r = some b → t'.at_ r' = some b → False := fun r r' b hr hr' e e' => by
    rw [hat r' hr'] at e'
    rcases hat' r b hr e with h1 | h1
    · exact hr' (h.inj r r' b h1 e' ▸ hr)
    · have := h.lt b ⟨r', e'⟩
      omega
  refine ⟨⟨fun r => ?_, fun r r' b e e' => ?_⟩, fun b hb => ?_⟩
  · by_cases hr : ch r
    · exact hnew r hr
    · exact hcomp r hr (comp_same (h.ok r) fun b hb => hs b (h.lt b ⟨r, hb⟩) fun r' hr' e => hr (h.inj r' r b e hb ▸ hr'))
  · by_cases hr : ch r
    · by_cases hr' : ch r'
      · exact hinj r r' b hr hr' e e'
      · exact absurd (hmix r r' b hr hr' e e') id
    · by_cases hr' : ch r'
      · exact absurd (hmix r' r b hr' hr e' e) id
      · rw [hat r hr] at e
        rw [hat r' hr'] at e'
        exact h.inj r r' b e e'
  · obtain ⟨r, hr⟩ := hb
    by_cases hc : ch r
    · exact (hat' r b hc hr).imp (fun h1 => ⟨r, h1⟩) id
    · rw [hat r hc] at hr
      exact .inl ⟨r, hr⟩
/-- As an item. -/
def mI (t : St) : Sp.Item :=
  ⟨fun w G => MemX w t ∧ ∀ b, G b ↔ t.foot b, fun ⟨h, hG⟩ hs _ => ⟨h.same (fun b hb => hs b ((hG b).2 hb)), hG⟩, fun ⟨h, hG⟩ b hb => h.lt b ((hG b).1 hb)⟩
variable {W : World} {items : List Sp.Item} {k : Nat}
theorem mI_take (h : Sp.Sep W w items) (hk : items[k]? = some (mI t)) : MemX w t ∧
    ∀ (w' : World) (t' : St), MemX w' t' → Only t.foot w w' → (∀ b, t'.foot b → t.foot b ∨ w.heap.size ≤ b) → Sp.Sep W w' (items.set k (mI t')) := by
  obtain ⟨G, ⟨hM, hG⟩, _, _, put⟩ := h.at_ k hk
  refine ⟨hM, fun w' t' hM' ho hgr => ?_⟩
  refine put w' t'.foot _ ⟨hM', fun b => Iff.rfl⟩ (fun b hb => ?_) (ho.mono fun b hb => .inl ((hG b).2 hb))
  exact (hgr b hb).imp (hG b).2 id
theorem mI_at (h : Sp.Sep W w items) (hk : items[k]? = some (mI t)) : MemX w t := (mI_take h hk).1
/-- One part is turned, in its own block. -/
theorem sep_turn (h : Sp.Sep W w items) (hk : items[k]? = some (mI t)) (r0 : Role) {b0 : Nat} (hb0 : t.at_ r0 = some b0) (hg : w.grownBy w' (some b0)) (hat : ∀ r, t'.at_ r = t.at_ r)
    (hcomp : ∀ r, r ≠ r0 → t.comp w' r → t'.comp w' r) (hnew : t'.comp w' r0) : Sp.Sep W w' (items.set k (mI t')) := by
  obtain ⟨hM, put⟩ := mI_take h hk
  obtain ⟨q1, q2⟩ := hM.turn (t' := t') (w' := w') (fun r => r = r0) (fun r _ => hat r) (fun r hr => hcomp r hr)
    (fun b hb hr => hg.block b hb (fun e => hr r0 rfl (hb0.trans e.symm))) (fun r hr => hr ▸ hnew) (fun r b _ e => .inl ((hat r).symm.trans e)) (fun r r' b e e' _ _ => e.trans e'.symm)
  exact put w' t' q1 ((Only.refl _ _).grown hg fun b hb => by injection hb with hb; subst hb; exact .inl ⟨r0, hb0⟩) q2
theorem grown_cell {g : Nat} {T : TypeId} {cs : Array Value} (hB : Sp.Blk w g T cs) (i : Nat) (u : Value) : w.grownBy (w.setCell ⟨g, i, none⟩ u) (some g) ∧ Sp.Blk (w.setCell ⟨g, i, none⟩ u) g T (cs.setIfInBounds i u) := by
  rw [set_row hB]
  exact ⟨⟨rfl, rfl, rfl, by rw [row_size]; exact Nat.le_refl _, fun k _ hne => setRow_other _ _ _ _ fun e => hne (by rw [e])⟩, hB.row _⟩
end
end Go.Proofs.Ytjdkgkllgapgjaa.Px
