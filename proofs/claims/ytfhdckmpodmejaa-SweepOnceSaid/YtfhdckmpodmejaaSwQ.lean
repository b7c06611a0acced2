/- What do tells is laid into two new blocks, in whatever order: both states stay alike. -/
import Derived.Test.YtfhdckmpodmejaaSwK
import Derived.Test.YtfhdckmpodmejaaFreeD
namespace Go.Proofs.Ytfhdckmpodmejaa.Oq
open Go.RowKit Go.Lib Sw Rw Sp
open Free
set_option linter.unusedVariables false

def Nb (A : Option Addr) (n g : Nat) : Prop := 0 < n → ∀ a, A = some a → a.block ≠ g
theorem Nb.row {W : World} {A : Option Addr} {n : Nat} {V : List Value} (h : VR W A n V) {g : Nat} (hg : Nb A n g) (cs : Array Value) : VR (W.setRow g cs) A n V := by
  rcases Nat.eq_zero_or_pos n with h0 | h0
  · exact ⟨h.len, fun h1 => by omega⟩
  · exact vr_far h g (hg h0) cs
theorem Nb.far {W : World} {A : Option Addr} {n : Nat} {V : List Value} (h : VR W A n V) {g : Nat} (hg : W.heap.size ≤ g) : Nb A n g := fun h0 a ha => by
  obtain ⟨b, o, e, hc⟩ := h.c h0
  obtain ⟨v, hv⟩ : ∃ v, V[0]? = some v := ⟨_, List.getElem?_eq_getElem (by rw [← h.len]; exact h0)⟩
  have := World.block_lt_of_cell? _ _ (hc 0 v hv)
  rw [ha] at e
  injection e with e
  subst e
  simp only at this ⊢
  omega
/-- Two states alike, whose lists lie in no block of S. -/
def Pr (S : Nat → Prop) (u v : Value) (W : World) : Prop :=
  ∃ (s : St) (A : Option Addr) (p : Nat) (B : Option Addr) (q : Nat), u = .agg (sc s A p) ∧ v = .agg (sc s B q) ∧ Right s ∧ VR W A s.t.length (iv s.t) ∧ VR W B s.t.length (iv s.t) ∧ ∀ g, S g → Nb A s.t.length g ∧ Nb B s.t.length g
section
variable {S S' : Nat → Prop} {u v : Value} {W W' : World}
theorem Pr.later (h : Pr S u v W) (hb : Below W.heap.size W W') : Pr S u v W' := by
  obtain ⟨s, A, p, B, q, e1, e2, h1, h2, h3, h4⟩ := h
  exact ⟨s, A, p, B, q, e1, e2, h1, h2.later hb, h3.later hb, h4⟩
theorem Pr.weak (h : Pr S u v W) (hs : ∀ g, S' g → S g ∨ W.heap.size ≤ g) : Pr S' u v W := by
  obtain ⟨s, A, p, B, q, e1, e2, h1, h2, h3, h4⟩ := h
  refine ⟨s, A, p, B, q, e1, e2, h1, h2, h3, fun g hg => ?_⟩
  rcases hs g hg with hg | hg
  · exact h4 g hg
  · exact ⟨Nb.far h2 hg, Nb.far h3 hg⟩
theorem Pr.row (h : Pr S u v W) {g : Nat} (hg : S g) (cs : Array Value) : Pr S u v (W.setRow g cs) := by
  obtain ⟨s, A, p, B, q, e1, e2, h1, h2, h3, h4⟩ := h
  exact ⟨s, A, p, B, q, e1, e2, h1, Nb.row h2 (h4 g hg).1 cs, Nb.row h3 (h4 g hg).2 cs, h4⟩
end
theorem blk_ne {W : World} {b c : Nat} {T T' : TypeId} {vs us : Array Value} (h : Sp.Blk W b T vs) (h' : Sp.Blk W c T' us) (hne : T ≠ T') : b ≠ c := by
  rintro rfl
  unfold Sp.Blk at h h'
  rw [h] at h'
  injection h' with h'
  injection h' with _ h' _
  exact hne h'

theorem put_ne {a : Act} {d j : Nat} (v : Value) (h : d ≠ j) : (a.put (some d) v).tmps.getD j undef = a.tmps.getD j undef := Free.slot_ne v h
/-- The tuple that do tells. -/
def tup3 (u v : Value) : Value := .tuple #[u, v, .bool true]
/-- The blocks that no list lies in. -/
def Sf (S : Nat → Prop) (listed : Array Bool) (a : Act) (g : Nat) : Prop :=
  S g ∨ (listed.getD 9 false = true ∧ a.tmps.getD 8 undef = .pointer (some ⟨g, 0, none⟩)) ∨ (listed.getD 10 false = true ∧ a.tmps.getD 9 undef = .pointer (some ⟨g, 0, none⟩))
structure O8s (w : World) (S : Nat → Prop) (u v : Value) (listed : Array Bool) (a : Act) (W : World) : Prop where
  b : Below w.heap.size w W
  d6 : listed.getD 4 false = true → a.tmps.getD 32 undef = tup3 u v ∧ Pr (Sf S listed a) u v W
  d7 : listed.getD 5 false = true → listed.getD 4 false = true ∧ a.tmps.getD 27 undef = tup3 u v
  d8 : listed.getD 6 false = true → listed.getD 5 false = true ∧ a.tmps.getD 33 undef = u
  d9 : listed.getD 7 false = true → listed.getD 5 false = true ∧ a.tmps.getD 34 undef = v
  k11 : listed.getD 9 false = true → ∃ b vs, a.tmps.getD 8 undef = .pointer (some ⟨b, 0, none⟩) ∧ w.heap.size ≤ b ∧ vs.size = 4 ∧ Blk W b 25 vs ∧ (listed.getD 11 false = true → u = .agg vs)
  k12 : listed.getD 10 false = true → ∃ b vs, a.tmps.getD 9 undef = .pointer (some ⟨b, 0, none⟩) ∧ w.heap.size ≤ b ∧ vs.size = 4 ∧ Blk W b 27 vs ∧ (listed.getD 12 false = true → v = .agg vs)
  d13 : listed.getD 11 false = true → listed.getD 4 false = true
  d14 : listed.getD 12 false = true → listed.getD 4 false = true
  e13 : listed.getD 11 false = true → listed.getD 9 false = true
  e14 : listed.getD 12 false = true → listed.getD 10 false = true
def O8 (w : World) (S : Nat → Prop) (listed : Array Bool) (a : Act) (W : World) : Prop := ∃ u v, O8s w S u v listed a W
theorem geT {a b c : World} (h : Below a.heap.size a b) (k : Below b.heap.size b c) : Below a.heap.size a c := h.trans (k.mono h.size)
theorem set_self {listed : Array Bool} {i : Nat} (h : i < listed.size) : (listed.setIfInBounds i true).getD i false = true := by simp [h]

section
variable {w W W' : World} {S : Nat → Prop} {u v : Value} {listed : Array Bool} {a : Act}
theorem O8.start (w : World) (S : Nat → Prop) (a : Act) : O8 w S (Array.replicate 14 false) a { w with drawn := w.drawn + 1 } :=
  ⟨undef, undef, ⟨(Below.refl _ _).drew, fun e => by simp at e, fun e => by simp at e, fun e => by simp at e, fun e => by simp at e, fun e => by simp at e, fun e => by simp at e, fun e => by simp at e, fun e => by simp at e, fun e => by simp at e, fun e => by simp at e⟩⟩
theorem Sf.keep {i d : Nat} {x : Value} (h11 : i ≠ 9) (h12 : i ≠ 10) (hd : d ≠ 8) (hd' : d ≠ 9) {g : Nat} (h : Sf S (listed.setIfInBounds i true) (a.put (some d) x) g) : Sf S listed a g := by
  unfold Sf at *
  rw [getD_set_ne false h11, getD_set_ne false h12, put_ne x hd, put_ne x hd'] at h
  exact h
/-- An operation that is none of those told of. -/
theorem O8s.step (h : O8s w S u v listed a W) (i d : Nat) (x : Value) (hi : i ≠ 4 ∧ i ≠ 5 ∧ i ≠ 6 ∧ i ≠ 7 ∧ i ≠ 9 ∧ i ≠ 10 ∧ i ≠ 11 ∧ i ≠ 12) (hd : d ≠ 32 ∧ d ≠ 27 ∧ d ≠ 33 ∧ d ≠ 34 ∧ d ≠ 8 ∧ d ≠ 9) (hb : Below W.heap.size W W') :
    O8s w S u v (listed.setIfInBounds i true) (a.put (some d) x) W' := by
  obtain ⟨i6, i7, i8, i9, i11, i12, i13, i14⟩ := hi
  obtain ⟨s71, s64, s72, s73, s12, s13⟩ := hd
  refine ⟨geT h.b hb, ?_, ?_, ?_, ?_, ?_, ?_, ?_, ?_, ?_, ?_⟩
  · rw [getD_set_ne false i6, put_ne x s71]
    exact fun e => ⟨(h.d6 e).1, ((h.d6 e).2.later hb).weak fun g hg => .inl (hg.keep i11 i12 s12 s13)⟩
  · rw [getD_set_ne false i7, getD_set_ne false i6, put_ne x s64]; exact h.d7
  · rw [getD_set_ne false i8, getD_set_ne false i7, put_ne x s72]; exact h.d8
  · rw [getD_set_ne false i9, getD_set_ne false i7, put_ne x s73]; exact h.d9
  · rw [getD_set_ne false i11, getD_set_ne false i13, put_ne x s12]
    intro e
    obtain ⟨b, vs, e1, e2, e3, e4, e5⟩ := h.k11 e
    exact ⟨b, vs, e1, e2, e3, e4.later hb, e5⟩
  · rw [getD_set_ne false i12, getD_set_ne false i14, put_ne x s13]
    intro e
    obtain ⟨b, vs, e1, e2, e3, e4, e5⟩ := h.k12 e
    exact ⟨b, vs, e1, e2, e3, e4.later hb, e5⟩
  · rw [getD_set_ne false i13, getD_set_ne false i6]; exact h.d13
  · rw [getD_set_ne false i14, getD_set_ne false i6]; exact h.d14
  · rw [getD_set_ne false i13, getD_set_ne false i11]; exact h.e13
  · rw [getD_set_ne false i14, getD_set_ne false i12]; exact h.e14
theorem O8.step (h : O8 w S listed a W) (i d : Nat) (x : Value) (hi : i ≠ 4 ∧ i ≠ 5 ∧ i ≠ 6 ∧ i ≠ 7 ∧ i ≠ 9 ∧ i ≠ 10 ∧ i ≠ 11 ∧ i ≠ 12) (hd : d ≠ 32 ∧ d ≠ 27 ∧ d ≠ 33 ∧ d ≠ 34 ∧ d ≠ 8 ∧ d ≠ 9) (hb : Below W.heap.size W W') :
    O8 w S (listed.setIfInBounds i true) (a.put (some d) x) W' := by
  obtain ⟨u, v, h⟩ := h
  exact ⟨u, v, h.step i d x hi hd hb⟩
theorem O8.belw (h : O8 w S listed a W) : Below w.heap.size w W := by
  obtain ⟨u, v, h⟩ := h
  exact h.b
/-- The call. -/
theorem O8.call (h : O8 w S listed a W) (hsz : 14 = listed.size) (hno : listed.getD 4 false = false) (ha : 32 < a.tmps.size) {u v : Value} (hR : Pr (fun g => S g ∨ (w.heap.size ≤ g ∧ g < W.heap.size)) u v W') (hb : Below W.heap.size W W') :
    O8 w S (listed.setIfInBounds 4 true) (a.put (some 32) (tup3 u v)) W' := by
  obtain ⟨u0, v0, h⟩ := h
  have n7 : ¬ listed.getD 5 false = true := fun e => by rw [(h.d7 e).1] at hno; cases hno
  have n8 : ¬ listed.getD 6 false = true := fun e => n7 (h.d8 e).1
  have n9 : ¬ listed.getD 7 false = true := fun e => n7 (h.d9 e).1
  have n13 : ¬ listed.getD 11 false = true := fun e => by rw [h.d13 e] at hno; cases hno
  have n14 : ¬ listed.getD 12 false = true := fun e => by rw [h.d14 e] at hno; cases hno
  refine ⟨u, v, ⟨geT h.b hb, fun _ => ⟨?_, ?_⟩, ?_, ?_, ?_, ?_, ?_, ?_, ?_, ?_, ?_⟩⟩
  · unfold Act.put; simp [ha]
  · refine hR.weak fun g hg => ?_
    have hg' := hg.keep (by omega) (by omega) (by omega) (by omega)
    rcases hg' with hg | ⟨e, hp⟩ | ⟨e, hp⟩
    · exact .inl (.inl hg)
    · obtain ⟨b, vs, e1, e2, _, e4, _⟩ := h.k11 e
      rw [hp] at e1
      injection e1 with e1
      injection e1 with e1
      injection e1 with e1
      subst e1
      exact .inl (.inr ⟨e2, e4.lt⟩)
    · obtain ⟨b, vs, e1, e2, _, e4, _⟩ := h.k12 e
      rw [hp] at e1
      injection e1 with e1
      injection e1 with e1
      injection e1 with e1
      subst e1
      exact .inl (.inr ⟨e2, e4.lt⟩)
  · rw [getD_set_ne false (by omega)]; exact fun e => absurd e n7
  · rw [getD_set_ne false (by omega)]; exact fun e => absurd e n8
  · rw [getD_set_ne false (by omega)]; exact fun e => absurd e n9
  · rw [getD_set_ne false (by omega), getD_set_ne false (by omega), put_ne _ (by omega)]
    intro e
    obtain ⟨b, vs, e1, e2, e3, e4, _⟩ := h.k11 e
    exact ⟨b, vs, e1, e2, e3, e4.later hb, fun e => absurd e n13⟩
  · rw [getD_set_ne false (by omega), getD_set_ne false (by omega), put_ne _ (by omega)]
    intro e
    obtain ⟨b, vs, e1, e2, e3, e4, _⟩ := h.k12 e
    exact ⟨b, vs, e1, e2, e3, e4.later hb, fun e => absurd e n14⟩
  · rw [getD_set_ne false (by omega)]; exact fun e => absurd e n13
  · rw [getD_set_ne false (by omega)]; exact fun e => absurd e n14
  · rw [getD_set_ne false (by omega)]; exact fun e => absurd e n13
  · rw [getD_set_ne false (by omega)]; exact fun e => absurd e n14
/-- The tuple laid aside. -/
theorem O8s.move (h : O8s w S u v listed a W) (hl : listed.getD 4 false = true) (hsz : 14 = listed.size) (ha : 27 < a.tmps.size) : O8s w S u v (listed.setIfInBounds 5 true) (a.put (some 27) (tup3 u v)) W := by
  refine ⟨h.b, ?_, ?_, ?_, ?_, ?_, ?_, ?_, ?_, ?_, ?_⟩
  · rw [getD_set_ne false (by omega), put_ne _ (by omega)]
    exact fun e => ⟨(h.d6 e).1, (h.d6 e).2.weak fun g hg => .inl (hg.keep (by omega) (by omega) (by omega) (by omega))⟩
  · rw [getD_set_ne (i := 5) (j := 4) false (by omega)]
    exact fun _ => ⟨hl, by unfold Act.put; simp [ha]⟩
  · rw [getD_set_ne (i := 5) (j := 6) false (by omega), put_ne _ (by omega)]
    exact fun e => ⟨set_self (by omega), (h.d8 e).2⟩
  · rw [getD_set_ne (i := 5) (j := 7) false (by omega), put_ne _ (by omega)]
    exact fun e => ⟨set_self (by omega), (h.d9 e).2⟩
  · rw [getD_set_ne false (by omega), getD_set_ne false (by omega), put_ne _ (by omega)]; exact h.k11
  · rw [getD_set_ne false (by omega), getD_set_ne false (by omega), put_ne _ (by omega)]; exact h.k12
  · rw [getD_set_ne false (by omega), getD_set_ne false (by omega)]; exact h.d13
  · rw [getD_set_ne false (by omega), getD_set_ne false (by omega)]; exact h.d14
  · rw [getD_set_ne false (by omega), getD_set_ne false (by omega)]; exact h.e13
  · rw [getD_set_ne false (by omega), getD_set_ne false (by omega)]; exact h.e14
/-- Both parts of it. -/
theorem O8s.part8 (h : O8s w S u v listed a W) (hl : listed.getD 5 false = true) (hsz : 14 = listed.size) (ha : 34 < a.tmps.size) : O8s w S u v (listed.setIfInBounds 6 true) (a.put (some 33) u) W := by
  refine ⟨h.b, ?_, ?_, ?_, ?_, ?_, ?_, ?_, ?_, ?_, ?_⟩
  · rw [getD_set_ne false (by omega), put_ne _ (by omega)]
    exact fun e => ⟨(h.d6 e).1, (h.d6 e).2.weak fun g hg => .inl (hg.keep (by omega) (by omega) (by omega) (by omega))⟩
  · rw [getD_set_ne false (by omega), getD_set_ne false (by omega), put_ne _ (by omega)]; exact h.d7
  · rw [getD_set_ne (i := 6) (j := 5) false (by omega)]
    exact fun _ => ⟨hl, by unfold Act.put; simp [show 33 < a.tmps.size by omega]⟩
  · rw [getD_set_ne false (by omega), getD_set_ne false (by omega), put_ne _ (by omega)]; exact h.d9
  · rw [getD_set_ne false (by omega), getD_set_ne false (by omega), put_ne _ (by omega)]; exact h.k11
  · rw [getD_set_ne false (by omega), getD_set_ne false (by omega), put_ne _ (by omega)]; exact h.k12
  · rw [getD_set_ne false (by omega), getD_set_ne false (by omega)]; exact h.d13
  · rw [getD_set_ne false (by omega), getD_set_ne false (by omega)]; exact h.d14
  · rw [getD_set_ne false (by omega), getD_set_ne false (by omega)]; exact h.e13
  · rw [getD_set_ne false (by omega), getD_set_ne false (by omega)]; exact h.e14
theorem O8s.part9 (h : O8s w S u v listed a W) (hl : listed.getD 5 false = true) (hsz : 14 = listed.size) (ha : 34 < a.tmps.size) : O8s w S u v (listed.setIfInBounds 7 true) (a.put (some 34) v) W := by
  refine ⟨h.b, ?_, ?_, ?_, ?_, ?_, ?_, ?_, ?_, ?_, ?_⟩
  · rw [getD_set_ne false (by omega), put_ne _ (by omega)]
    exact fun e => ⟨(h.d6 e).1, (h.d6 e).2.weak fun g hg => .inl (hg.keep (by omega) (by omega) (by omega) (by omega))⟩
  · rw [getD_set_ne false (by omega), getD_set_ne false (by omega), put_ne _ (by omega)]; exact h.d7
  · rw [getD_set_ne false (by omega), getD_set_ne false (by omega), put_ne _ (by omega)]; exact h.d8
  · rw [getD_set_ne (i := 7) (j := 5) false (by omega)]
    exact fun _ => ⟨hl, by unfold Act.put; simp [ha]⟩
  · rw [getD_set_ne false (by omega), getD_set_ne false (by omega), put_ne _ (by omega)]; exact h.k11
  · rw [getD_set_ne false (by omega), getD_set_ne false (by omega), put_ne _ (by omega)]; exact h.k12
  · rw [getD_set_ne false (by omega), getD_set_ne false (by omega)]; exact h.d13
  · rw [getD_set_ne false (by omega), getD_set_ne false (by omega)]; exact h.d14
  · rw [getD_set_ne false (by omega), getD_set_ne false (by omega)]; exact h.e13
  · rw [getD_set_ne false (by omega), getD_set_ne false (by omega)]; exact h.e14
/-- The new blocks. -/
theorem O8s.al11 (h : O8s w S u v listed a W) (hsz : 14 = listed.size) (hno : listed.getD 9 false = false) (ha : 9 < a.tmps.size) (vs : Array Value) (hv : vs.size = 4) :
    O8s w S u v (listed.setIfInBounds 9 true) (a.put (some 8) (.pointer (some ⟨W.heap.size, 0, none⟩))) (W.alloc (.cells vs 25)) := by
  have hb := below1 W (.cells vs 25)
  have e12 : (a.put (some 8) (.pointer (some ⟨W.heap.size, 0, none⟩))).tmps.getD 8 undef = .pointer (some ⟨W.heap.size, 0, none⟩) := by
    unfold Act.put; simp [show 8 < a.tmps.size by omega]
  refine ⟨geT h.b hb, ?_, ?_, ?_, ?_, fun _ => ⟨W.heap.size, vs, e12, h.b.size, hv, Blk.new _ _ _, ?_⟩, ?_, ?_, ?_, ?_, ?_⟩
  · rw [getD_set_ne false (by omega), put_ne _ (by omega)]
    refine fun e => ⟨(h.d6 e).1, ((h.d6 e).2.weak (S' := fun g => Sf S listed a g ∨ W.heap.size ≤ g) fun g hg => hg).later hb |>.weak fun g hg => ?_⟩
    rcases hg with hg | ⟨_, hp⟩ | ⟨e, hp⟩
    · exact .inl (.inl (.inl hg))
    · rw [e12] at hp
      injection hp with hp
      injection hp with hp
      injection hp with hp
      exact .inl (.inr (by omega))
    · rw [getD_set_ne false (by omega)] at e
      rw [put_ne _ (by omega)] at hp
      exact .inl (.inl (.inr (.inr ⟨e, hp⟩)))
  · rw [getD_set_ne false (by omega), getD_set_ne false (by omega), put_ne _ (by omega)]; exact h.d7
  · rw [getD_set_ne false (by omega), getD_set_ne false (by omega), put_ne _ (by omega)]; exact h.d8
  · rw [getD_set_ne false (by omega), getD_set_ne false (by omega), put_ne _ (by omega)]; exact h.d9
  · rw [getD_set_ne false (by omega)]
    exact fun e => by rw [h.e13 e] at hno; cases hno
  · rw [getD_set_ne false (by omega), getD_set_ne false (by omega), put_ne _ (by omega)]
    intro e
    obtain ⟨b, vs', f1, f2, f3, f4, f5⟩ := h.k12 e
    exact ⟨b, vs', f1, f2, f3, f4.later hb, f5⟩
  · rw [getD_set_ne false (by omega), getD_set_ne false (by omega)]; exact h.d13
  · rw [getD_set_ne false (by omega), getD_set_ne false (by omega)]; exact h.d14
  · exact fun _ => set_self (by omega)
  · rw [getD_set_ne false (by omega), getD_set_ne false (by omega)]; exact h.e14
theorem O8s.al12 (h : O8s w S u v listed a W) (hsz : 14 = listed.size) (hno : listed.getD 10 false = false) (ha : 9 < a.tmps.size) (vs : Array Value) (hv : vs.size = 4) :
    O8s w S u v (listed.setIfInBounds 10 true) (a.put (some 9) (.pointer (some ⟨W.heap.size, 0, none⟩))) (W.alloc (.cells vs 27)) := by
  have hb := below1 W (.cells vs 27)
  have e13 : (a.put (some 9) (.pointer (some ⟨W.heap.size, 0, none⟩))).tmps.getD 9 undef = .pointer (some ⟨W.heap.size, 0, none⟩) := by
    unfold Act.put; simp [ha]
  refine ⟨geT h.b hb, ?_, ?_, ?_, ?_, ?_, fun _ => ⟨W.heap.size, vs, e13, h.b.size, hv, Blk.new _ _ _, ?_⟩, ?_, ?_, ?_, ?_⟩
  · rw [getD_set_ne false (by omega), put_ne _ (by omega)]
    refine fun e => ⟨(h.d6 e).1, ((h.d6 e).2.weak (S' := fun g => Sf S listed a g ∨ W.heap.size ≤ g) fun g hg => hg).later hb |>.weak fun g hg => ?_⟩
    rcases hg with hg | ⟨e, hp⟩ | ⟨_, hp⟩
    · exact .inl (.inl (.inl hg))
    · rw [getD_set_ne false (by omega)] at e
      rw [put_ne _ (by omega)] at hp
      exact .inl (.inl (.inr (.inl ⟨e, hp⟩)))
    · rw [e13] at hp
      injection hp with hp
      injection hp with hp
      injection hp with hp
      exact .inl (.inr (by omega))
  · rw [getD_set_ne false (by omega), getD_set_ne false (by omega), put_ne _ (by omega)]; exact h.d7
  · rw [getD_set_ne false (by omega), getD_set_ne false (by omega), put_ne _ (by omega)]; exact h.d8
  · rw [getD_set_ne false (by omega), getD_set_ne false (by omega), put_ne _ (by omega)]; exact h.d9
  · rw [getD_set_ne false (by omega), getD_set_ne false (by omega), put_ne _ (by omega)]
    intro e
    obtain ⟨b, vs', f1, f2, f3, f4, f5⟩ := h.k11 e
    exact ⟨b, vs', f1, f2, f3, f4.later hb, f5⟩
  · rw [getD_set_ne false (by omega)]
    exact fun e => by rw [h.e14 e] at hno; cases hno
  · rw [getD_set_ne false (by omega), getD_set_ne false (by omega)]; exact h.d13
  · rw [getD_set_ne false (by omega), getD_set_ne false (by omega)]; exact h.d14
  · rw [getD_set_ne false (by omega), getD_set_ne false (by omega)]; exact h.e13
  · exact fun _ => set_self (by omega)
/-- The stores. -/
theorem O8s.st13 (h : O8s w S u v listed a W) (hsz : 14 = listed.size) (hl6 : listed.getD 4 false = true) (hl11 : listed.getD 9 false = true) {b : Nat} {vs us : Array Value} (e1 : a.tmps.getD 8 undef = .pointer (some ⟨b, 0, none⟩)) (hb : w.heap.size ≤ b) (hB : Blk W b 25 vs) (hu : us.size = 4) (hus : u = .agg us) :
    O8s w S u v (listed.setIfInBounds 11 true) (a.put none undef) (W.setRow b us) := by
  refine ⟨below_row h.b hb _, ?_, ?_, ?_, ?_, ?_, ?_, ?_, ?_, ?_, ?_⟩
  · rw [getD_set_ne false (by omega)]
    refine fun e => ⟨(h.d6 e).1, ((h.d6 e).2.row (.inr (.inl ⟨hl11, e1⟩)) us).weak fun g hg => ?_⟩
    unfold Sf at hg
    rw [getD_set_ne false (by omega), getD_set_ne false (by omega)] at hg
    exact .inl hg
  · rw [getD_set_ne false (by omega), getD_set_ne false (by omega)]; exact h.d7
  · rw [getD_set_ne false (by omega), getD_set_ne false (by omega)]; exact h.d8
  · rw [getD_set_ne false (by omega), getD_set_ne false (by omega)]; exact h.d9
  · exact fun _ => ⟨b, us, e1, hb, hu, hB.row _, fun _ => hus⟩
  · rw [getD_set_ne false (by omega), getD_set_ne false (by omega)]
    intro e
    obtain ⟨c, vs', f1, f2, f3, f4, f5⟩ := h.k12 e
    exact ⟨c, vs', f1, f2, f3, f4.far (blk_ne hB f4 (by decide)) _, f5⟩
  · rw [getD_set_ne (i := 11) (j := 4) false (by omega)]; exact fun _ => hl6
  · rw [getD_set_ne false (by omega), getD_set_ne false (by omega)]; exact h.d14
  · rw [getD_set_ne (i := 11) (j := 9) false (by omega)]; exact fun _ => hl11
  · rw [getD_set_ne false (by omega), getD_set_ne false (by omega)]; exact h.e14
theorem O8s.st14 (h : O8s w S u v listed a W) (hsz : 14 = listed.size) (hl6 : listed.getD 4 false = true) (hl12 : listed.getD 10 false = true) {b : Nat} {vs us : Array Value} (e1 : a.tmps.getD 9 undef = .pointer (some ⟨b, 0, none⟩)) (hb : w.heap.size ≤ b) (hB : Blk W b 27 vs) (hu : us.size = 4) (hus : v = .agg us) :
    O8s w S u v (listed.setIfInBounds 12 true) (a.put none undef) (W.setRow b us) := by
  refine ⟨below_row h.b hb _, ?_, ?_, ?_, ?_, ?_, ?_, ?_, ?_, ?_, ?_⟩
  · rw [getD_set_ne false (by omega)]
    refine fun e => ⟨(h.d6 e).1, ((h.d6 e).2.row (.inr (.inr ⟨hl12, e1⟩)) us).weak fun g hg => ?_⟩
    unfold Sf at hg
    rw [getD_set_ne false (by omega), getD_set_ne false (by omega)] at hg
    exact .inl hg
  · rw [getD_set_ne false (by omega), getD_set_ne false (by omega)]; exact h.d7
  · rw [getD_set_ne false (by omega), getD_set_ne false (by omega)]; exact h.d8
  · rw [getD_set_ne false (by omega), getD_set_ne false (by omega)]; exact h.d9
  · rw [getD_set_ne false (by omega), getD_set_ne false (by omega)]
    intro e
    obtain ⟨c, vs', f1, f2, f3, f4, f5⟩ := h.k11 e
    exact ⟨c, vs', f1, f2, f3, f4.far (blk_ne hB f4 (by decide)) _, f5⟩
  · exact fun _ => ⟨b, us, e1, hb, hu, hB.row _, fun _ => hus⟩
  · rw [getD_set_ne false (by omega), getD_set_ne false (by omega)]; exact h.d13
  · rw [getD_set_ne (i := 12) (j := 4) false (by omega)]; exact fun _ => hl6
  · rw [getD_set_ne false (by omega), getD_set_ne false (by omega)]; exact h.e13
  · rw [getD_set_ne (i := 12) (j := 10) false (by omega)]; exact fun _ => hl12
end
end Go.Proofs.Ytfhdckmpodmejaa.Oq
