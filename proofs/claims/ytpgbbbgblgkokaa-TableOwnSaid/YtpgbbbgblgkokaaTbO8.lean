/- While the law TableDoes lays what do tells into two new blocks, in whatever order: both tables stay alike. -/
import Derived.Test.YtpgbbbgblgkokaaTbO6
namespace Go.Proofs.Ytpgbbbgblgkokaa
open Go.RowKit Go.Lib
set_option linter.unusedVariables false

section
variable {κ : IntKind} {W W' : World} {A : Option Addr} {m : Nat} {l : List Int}
theorem Sl.rowN (h : Sl κ W A m l) {g : Nat} (hg : ∀ a, A = some a → a.block ≠ g) (cs : Array Value) : Sl κ (W.setRow g cs) A m l := by
  refine ⟨h.len, fun hm => ?_⟩
  obtain ⟨b, o, rfl, hb, hc⟩ := h.cells hm
  have hne : b ≠ g := hg _ rfl
  exact ⟨b, o, rfl, by rw [row_size]; exact hb, fun j hj => (World.cell?_of_block (w := W) (setRow_other W g b cs hne)).trans (hc j hj)⟩
end
theorem TIn.rowN {W : World} {A : Option Addr} {m : Nat} {B : Option Addr} {k : Nat} {C : Option Addr} {n : Nat} {o l f : List Int} (h : TIn W A m B k C n o l f) {g : Nat} (hg : Nb3 A B C g) (cs : Array Value) : TIn (W.setRow g cs) A m B k C n o l f :=
  ⟨h.a.rowN hg.1 cs, h.b.rowN hg.2.1 cs, h.c.rowN hg.2.2 cs⟩
theorem Sl.nb {κ : IntKind} {W : World} {A : Option Addr} {m : Nat} {l : List Int} (h : Sl κ W A m l) (hm : 0 < m) {g : Nat} (hg : W.heap.size ≤ g) : ∀ a, A = some a → a.block ≠ g := by
  obtain ⟨b, o, rfl, hb, _⟩ := h.cells hm
  rintro a ha
  injection ha with ha
  subst ha
  simp only
  omega
theorem TIn.nb {sg st : Int} {W : World} {A : Option Addr} {m : Nat} {B : Option Addr} {k : Nat} {C : Option Addr} {n : Nat} {o l f : List Int} (hok : okP ⟨sg, st, o, l, f⟩) (h : TIn W A m B k C n o l f) {g : Nat} (hg : W.heap.size ≤ g) : Nb3 A B C g := by
  have h1 := ok_full hok h
  exact ⟨h.a.nb (by omega) hg, h.b.nb (by omega) hg, h.c.nb (by omega) hg⟩

/-- Two tables that read as the same plain one, which may be; their lists lie in no block of S. -/
def DoR (S : Nat → Prop) (u v : Value) (W : World) : Prop :=
  ∃ (sg st : Int) (A : Option Addr) (m p : Nat) (B : Option Addr) (k q : Nat) (C : Option Addr) (n r : Nat) (A1 : Option Addr) (m1 p1 : Nat) (B1 : Option Addr) (k1 q1 : Nat) (C1 : Option Addr) (n1 r1 : Nat) (o l f : List Int),
    u = .agg #[.int .i64 sg, .int .i64 st, .slice A m p, .slice B k q, .slice C n r] ∧ v = .agg #[.int .i64 sg, .int .i64 st, .slice A1 m1 p1, .slice B1 k1 q1, .slice C1 n1 r1] ∧
    okP ⟨sg, st, o, l, f⟩ ∧ TIn W A m B k C n o l f ∧ TIn W A1 m1 B1 k1 C1 n1 o l f ∧ m ≤ p ∧ ∀ g, S g → Nb3 A B C g ∧ Nb3 A1 B1 C1 g
section
variable {S S' : Nat → Prop} {u v : Value} {W W' : World}
theorem DoR.later (h : DoR S u v W) (hb : Below W.heap.size W W') : DoR S u v W' := by
  obtain ⟨sg, st, A, m, p, B, k, q, C, n, r, A1, m1, p1, B1, k1, q1, C1, n1, r1, o, l, f, e1, e2, h1, h2, h3, h4, h5⟩ := h
  exact ⟨sg, st, A, m, p, B, k, q, C, n, r, A1, m1, p1, B1, k1, q1, C1, n1, r1, o, l, f, e1, e2, h1, h2.later hb, h3.later hb, h4, h5⟩
theorem DoR.weak (h : DoR S u v W) (hs : ∀ g, S' g → S g ∨ W.heap.size ≤ g) : DoR S' u v W := by
  obtain ⟨sg, st, A, m, p, B, k, q, C, n, r, A1, m1, p1, B1, k1, q1, C1, n1, r1, o, l, f, e1, e2, h1, h2, h3, h4, h5⟩ := h
  refine ⟨sg, st, A, m, p, B, k, q, C, n, r, A1, m1, p1, B1, k1, q1, C1, n1, r1, o, l, f, e1, e2, h1, h2, h3, h4, fun g hg => ?_⟩
  rcases hs g hg with hg | hg
  · exact h5 g hg
  · exact ⟨h2.nb h1 hg, h3.nb h1 hg⟩
theorem DoR.row (h : DoR S u v W) {g : Nat} (hg : S g) (cs : Array Value) : DoR S u v (W.setRow g cs) := by
  obtain ⟨sg, st, A, m, p, B, k, q, C, n, r, A1, m1, p1, B1, k1, q1, C1, n1, r1, o, l, f, e1, e2, h1, h2, h3, h4, h5⟩ := h
  exact ⟨sg, st, A, m, p, B, k, q, C, n, r, A1, m1, p1, B1, k1, q1, C1, n1, r1, o, l, f, e1, e2, h1, h2.rowN (h5 g hg).1 cs, h3.rowN (h5 g hg).2 cs, h4, h5⟩
end

theorem put_ne {a : Act} {d j : Nat} (v : Value) (h : d ≠ j) : (a.put (some d) v).tmps.getD j undef = a.tmps.getD j undef := Free.slot_ne v h
/-- The tuple that do tells. -/
def tup3 (u v : Value) : Value := .tuple #[u, v, .bool true]
/-- The blocks that no list lies in. -/
def Sf (S : Nat → Prop) (listed : Array Bool) (a : Act) (g : Nat) : Prop :=
  S g ∨ (listed.getD 11 false = true ∧ a.tmps.getD 12 undef = .pointer (some ⟨g, 0, none⟩)) ∨ (listed.getD 12 false = true ∧ a.tmps.getD 13 undef = .pointer (some ⟨g, 0, none⟩))
structure O8s (w : World) (S : Nat → Prop) (u v : Value) (listed : Array Bool) (a : Act) (W : World) : Prop where
  b : Below w.heap.size w W
  d6 : listed.getD 6 false = true → a.tmps.getD 71 undef = tup3 u v ∧ DoR (Sf S listed a) u v W
  d7 : listed.getD 7 false = true → listed.getD 6 false = true ∧ a.tmps.getD 64 undef = tup3 u v
  d8 : listed.getD 8 false = true → listed.getD 7 false = true ∧ a.tmps.getD 72 undef = u
  d9 : listed.getD 9 false = true → listed.getD 7 false = true ∧ a.tmps.getD 73 undef = v
  k11 : listed.getD 11 false = true → ∃ b vs, a.tmps.getD 12 undef = .pointer (some ⟨b, 0, none⟩) ∧ w.heap.size ≤ b ∧ vs.size = 5 ∧ Blk W b 28 vs ∧ (listed.getD 13 false = true → u = .agg vs)
  k12 : listed.getD 12 false = true → ∃ b vs, a.tmps.getD 13 undef = .pointer (some ⟨b, 0, none⟩) ∧ w.heap.size ≤ b ∧ vs.size = 5 ∧ Blk W b 32 vs ∧ (listed.getD 14 false = true → v = .agg vs)
  d13 : listed.getD 13 false = true → listed.getD 6 false = true
  d14 : listed.getD 14 false = true → listed.getD 6 false = true
  e13 : listed.getD 13 false = true → listed.getD 11 false = true
  e14 : listed.getD 14 false = true → listed.getD 12 false = true
def O8 (w : World) (S : Nat → Prop) (listed : Array Bool) (a : Act) (W : World) : Prop := ∃ u v, O8s w S u v listed a W
theorem set_self {listed : Array Bool} {i : Nat} (h : i < listed.size) : (listed.setIfInBounds i true).getD i false = true := by simp [h]

section
variable {w W W' : World} {S : Nat → Prop} {u v : Value} {listed : Array Bool} {a : Act}
theorem O8.start (w : World) (S : Nat → Prop) (a : Act) : O8 w S (Array.replicate 16 false) a { w with drawn := w.drawn + 1 } :=
  ⟨undef, undef, ⟨(Below.refl _ _).drew, fun e => by simp at e, fun e => by simp at e, fun e => by simp at e, fun e => by simp at e, fun e => by simp at e, fun e => by simp at e, fun e => by simp at e, fun e => by simp at e, fun e => by simp at e, fun e => by simp at e⟩⟩
theorem Sf.keep {i d : Nat} {x : Value} (h11 : i ≠ 11) (h12 : i ≠ 12) (hd : d ≠ 12) (hd' : d ≠ 13) {g : Nat} (h : Sf S (listed.setIfInBounds i true) (a.put (some d) x) g) : Sf S listed a g := by
  unfold Sf at *
  rw [getD_set_ne false h11, getD_set_ne false h12, put_ne x hd, put_ne x hd'] at h
  exact h
/-- An operation that is none of those told of. -/
theorem O8s.step (h : O8s w S u v listed a W) (i d : Nat) (x : Value) (hi : i ≠ 6 ∧ i ≠ 7 ∧ i ≠ 8 ∧ i ≠ 9 ∧ i ≠ 11 ∧ i ≠ 12 ∧ i ≠ 13 ∧ i ≠ 14) (hd : d ≠ 71 ∧ d ≠ 64 ∧ d ≠ 72 ∧ d ≠ 73 ∧ d ≠ 12 ∧ d ≠ 13) (hb : Below W.heap.size W W') :
    O8s w S u v (listed.setIfInBounds i true) (a.put (some d) x) W' := by
  obtain ⟨i6, i7, i8, i9, i11, i12, i13, i14⟩ := hi
  obtain ⟨s71, s64, s72, s73, s12, s13⟩ := hd
  refine ⟨Ge.trans h.b hb, ?_, ?_, ?_, ?_, ?_, ?_, ?_, ?_, ?_, ?_⟩
  · rw [getD_set_ne false i6, put_ne x s71]
    exact fun e => ⟨(h.d6 e).1, ((h.d6 e).2.later hb).weak fun g hg => .inl (hg.keep i11 i12 s12 s13)⟩
  · rw [getD_set_ne false i7, getD_set_ne false i6, put_ne x s64]; exact h.d7
  · rw [getD_set_ne false i8, getD_set_ne false i7, put_ne x s72]; exact h.d8
  · rw [getD_set_ne false i9, getD_set_ne false i7, put_ne x s73]; exact h.d9
  · rw [getD_set_ne false i11, getD_set_ne false i13, put_ne x s12]
    intro e
    obtain ⟨b, vs, e1, e2, e3, e4, e5⟩ := h.k11 e
    exact ⟨b, vs, e1, e2, e3, e4.later hb, e5⟩
  · rw [getD_set_ne false i12, getD_set_ne false i14, put_ne x s13]
    intro e
    obtain ⟨b, vs, e1, e2, e3, e4, e5⟩ := h.k12 e
    exact ⟨b, vs, e1, e2, e3, e4.later hb, e5⟩
  · rw [getD_set_ne false i13, getD_set_ne false i6]; exact h.d13
  · rw [getD_set_ne false i14, getD_set_ne false i6]; exact h.d14
  · rw [getD_set_ne false i13, getD_set_ne false i11]; exact h.e13
  · rw [getD_set_ne false i14, getD_set_ne false i12]; exact h.e14
theorem O8.step (h : O8 w S listed a W) (i d : Nat) (x : Value) (hi : i ≠ 6 ∧ i ≠ 7 ∧ i ≠ 8 ∧ i ≠ 9 ∧ i ≠ 11 ∧ i ≠ 12 ∧ i ≠ 13 ∧ i ≠ 14) (hd : d ≠ 71 ∧ d ≠ 64 ∧ d ≠ 72 ∧ d ≠ 73 ∧ d ≠ 12 ∧ d ≠ 13) (hb : Below W.heap.size W W') :
    O8 w S (listed.setIfInBounds i true) (a.put (some d) x) W' := by
  obtain ⟨u, v, h⟩ := h
  exact ⟨u, v, h.step i d x hi hd hb⟩
theorem O8.belw (h : O8 w S listed a W) : Below w.heap.size w W := by
  obtain ⟨u, v, h⟩ := h
  exact h.b
/-- The call. -/
theorem O8.call (h : O8 w S listed a W) (hsz : 16 = listed.size) (hno : listed.getD 6 false = false) (ha : 71 < a.tmps.size) {u v : Value} (hR : DoR (fun g => S g ∨ (w.heap.size ≤ g ∧ g < W.heap.size)) u v W') (hb : Below W.heap.size W W') :
    O8 w S (listed.setIfInBounds 6 true) (a.put (some 71) (tup3 u v)) W' := by
  obtain ⟨u0, v0, h⟩ := h
  have n7 : ¬ listed.getD 7 false = true := fun e => by rw [(h.d7 e).1] at hno; cases hno
  have n8 : ¬ listed.getD 8 false = true := fun e => n7 (h.d8 e).1
  have n9 : ¬ listed.getD 9 false = true := fun e => n7 (h.d9 e).1
  have n13 : ¬ listed.getD 13 false = true := fun e => by rw [h.d13 e] at hno; cases hno
  have n14 : ¬ listed.getD 14 false = true := fun e => by rw [h.d14 e] at hno; cases hno
  refine ⟨u, v, ⟨Ge.trans h.b hb, fun _ => ⟨?_, ?_⟩, ?_, ?_, ?_, ?_, ?_, ?_, ?_, ?_, ?_⟩⟩
  · unfold Act.put; simp [ha]
  · refine hR.weak fun g hg => ?_
    have hg' := hg.keep (by omega) (by omega) (by omega) (by omega)
    rcases hg' with hg | ⟨e, hp⟩ | ⟨e, hp⟩
    · exact .inl (.inl hg)
    · obtain ⟨b, vs, e1, e2, _, e4, _⟩ := h.k11 e
      rw [hp] at e1
      injection e1 with e1
      injection e1 with e1
      injection e1 with e1
      subst e1
      exact .inl (.inr ⟨e2, e4.lt⟩)
    · obtain ⟨b, vs, e1, e2, _, e4, _⟩ := h.k12 e
      rw [hp] at e1
      injection e1 with e1
      injection e1 with e1
      injection e1 with e1
      subst e1
      exact .inl (.inr ⟨e2, e4.lt⟩)
  · rw [getD_set_ne false (by omega)]; exact fun e => absurd e n7
  · rw [getD_set_ne false (by omega)]; exact fun e => absurd e n8
  · rw [getD_set_ne false (by omega)]; exact fun e => absurd e n9
  · rw [getD_set_ne false (by omega), getD_set_ne false (by omega), put_ne _ (by omega)]
    intro e
    obtain ⟨b, vs, e1, e2, e3, e4, _⟩ := h.k11 e
    exact ⟨b, vs, e1, e2, e3, e4.later hb, fun e => absurd e n13⟩
  · rw [getD_set_ne false (by omega), getD_set_ne false (by omega), put_ne _ (by omega)]
    intro e
    obtain ⟨b, vs, e1, e2, e3, e4, _⟩ := h.k12 e
    exact ⟨b, vs, e1, e2, e3, e4.later hb, fun e => absurd e n14⟩
  · rw [getD_set_ne false (by omega)]; exact fun e => absurd e n13
  · rw [getD_set_ne false (by omega)]; exact fun e => absurd e n14
  · rw [getD_set_ne false (by omega)]; exact fun e => absurd e n13
  · rw [getD_set_ne false (by omega)]; exact fun e => absurd e n14
/-- The tuple laid aside. -/
theorem O8s.move (h : O8s w S u v listed a W) (hl : listed.getD 6 false = true) (hsz : 16 = listed.size) (ha : 64 < a.tmps.size) : O8s w S u v (listed.setIfInBounds 7 true) (a.put (some 64) (tup3 u v)) W := by
  refine ⟨h.b, ?_, ?_, ?_, ?_, ?_, ?_, ?_, ?_, ?_, ?_⟩
  · rw [getD_set_ne false (by omega), put_ne _ (by omega)]
    exact fun e => ⟨(h.d6 e).1, (h.d6 e).2.weak fun g hg => .inl (hg.keep (by omega) (by omega) (by omega) (by omega))⟩
  · rw [getD_set_ne (i := 7) (j := 6) false (by omega)]
    exact fun _ => ⟨hl, by unfold Act.put; simp [ha]⟩
  · rw [getD_set_ne (i := 7) (j := 8) false (by omega), put_ne _ (by omega)]
    exact fun e => ⟨set_self (by omega), (h.d8 e).2⟩
  · rw [getD_set_ne (i := 7) (j := 9) false (by omega), put_ne _ (by omega)]
    exact fun e => ⟨set_self (by omega), (h.d9 e).2⟩
  · rw [getD_set_ne false (by omega), getD_set_ne false (by omega), put_ne _ (by omega)]; exact h.k11
  · rw [getD_set_ne false (by omega), getD_set_ne false (by omega), put_ne _ (by omega)]; exact h.k12
  · rw [getD_set_ne false (by omega), getD_set_ne false (by omega)]; exact h.d13
  · rw [getD_set_ne false (by omega), getD_set_ne false (by omega)]; exact h.d14
  · rw [getD_set_ne false (by omega), getD_set_ne false (by omega)]; exact h.e13
  · rw [getD_set_ne false (by omega), getD_set_ne false (by omega)]; exact h.e14
/-- Both parts of it. -/
theorem O8s.part8 (h : O8s w S u v listed a W) (hl : listed.getD 7 false = true) (hsz : 16 = listed.size) (ha : 73 < a.tmps.size) : O8s w S u v (listed.setIfInBounds 8 true) (a.put (some 72) u) W := by
  refine ⟨h.b, ?_, ?_, ?_, ?_, ?_, ?_, ?_, ?_, ?_, ?_⟩
  · rw [getD_set_ne false (by omega), put_ne _ (by omega)]
    exact fun e => ⟨(h.d6 e).1, (h.d6 e).2.weak fun g hg => .inl (hg.keep (by omega) (by omega) (by omega) (by omega))⟩
  · rw [getD_set_ne false (by omega), getD_set_ne false (by omega), put_ne _ (by omega)]; exact h.d7
  · rw [getD_set_ne (i := 8) (j := 7) false (by omega)]
    exact fun _ => ⟨hl, by unfold Act.put; simp [show 72 < a.tmps.size by omega]⟩
  · rw [getD_set_ne false (by omega), getD_set_ne false (by omega), put_ne _ (by omega)]; exact h.d9
  · rw [getD_set_ne false (by omega), getD_set_ne false (by omega), put_ne _ (by omega)]; exact h.k11
  · rw [getD_set_ne false (by omega), getD_set_ne false (by omega), put_ne _ (by omega)]; exact h.k12
  · rw [getD_set_ne false (by omega), getD_set_ne false (by omega)]; exact h.d13
  · rw [getD_set_ne false (by omega), getD_set_ne false (by omega)]; exact h.d14
  · rw [getD_set_ne false (by omega), getD_set_ne false (by omega)]; exact h.e13
  · rw [getD_set_ne false (by omega), getD_set_ne false (by omega)]; exact h.e14
theorem O8s.part9 (h : O8s w S u v listed a W) (hl : listed.getD 7 false = true) (hsz : 16 = listed.size) (ha : 73 < a.tmps.size) : O8s w S u v (listed.setIfInBounds 9 true) (a.put (some 73) v) W := by
  refine ⟨h.b, ?_, ?_, ?_, ?_, ?_, ?_, ?_, ?_, ?_, ?_⟩
  · rw [getD_set_ne false (by omega), put_ne _ (by omega)]
    exact fun e => ⟨(h.d6 e).1, (h.d6 e).2.weak fun g hg => .inl (hg.keep (by omega) (by omega) (by omega) (by omega))⟩
  · rw [getD_set_ne false (by omega), getD_set_ne false (by omega), put_ne _ (by omega)]; exact h.d7
  · rw [getD_set_ne false (by omega), getD_set_ne false (by omega), put_ne _ (by omega)]; exact h.d8
  · rw [getD_set_ne (i := 9) (j := 7) false (by omega)]
    exact fun _ => ⟨hl, by unfold Act.put; simp [ha]⟩
  · rw [getD_set_ne false (by omega), getD_set_ne false (by omega), put_ne _ (by omega)]; exact h.k11
  · rw [getD_set_ne false (by omega), getD_set_ne false (by omega), put_ne _ (by omega)]; exact h.k12
  · rw [getD_set_ne false (by omega), getD_set_ne false (by omega)]; exact h.d13
  · rw [getD_set_ne false (by omega), getD_set_ne false (by omega)]; exact h.d14
  · rw [getD_set_ne false (by omega), getD_set_ne false (by omega)]; exact h.e13
  · rw [getD_set_ne false (by omega), getD_set_ne false (by omega)]; exact h.e14
/-- The new blocks. -/
theorem O8s.al11 (h : O8s w S u v listed a W) (hsz : 16 = listed.size) (hno : listed.getD 11 false = false) (ha : 13 < a.tmps.size) (vs : Array Value) (hv : vs.size = 5) :
    O8s w S u v (listed.setIfInBounds 11 true) (a.put (some 12) (.pointer (some ⟨W.heap.size, 0, none⟩))) (W.alloc (.cells vs 28)) := by
  have hb := below1 W (.cells vs 28)
  have e12 : (a.put (some 12) (.pointer (some ⟨W.heap.size, 0, none⟩))).tmps.getD 12 undef = .pointer (some ⟨W.heap.size, 0, none⟩) := by
    unfold Act.put; simp [show 12 < a.tmps.size by omega]
  refine ⟨Ge.trans h.b hb, ?_, ?_, ?_, ?_, fun _ => ⟨W.heap.size, vs, e12, h.b.size, hv, Blk.new _ _ _, ?_⟩, ?_, ?_, ?_, ?_, ?_⟩
  · rw [getD_set_ne false (by omega), put_ne _ (by omega)]
    refine fun e => ⟨(h.d6 e).1, ((h.d6 e).2.weak (S' := fun g => Sf S listed a g ∨ W.heap.size ≤ g) fun g hg => hg).later hb |>.weak fun g hg => ?_⟩
    rcases hg with hg | ⟨_, hp⟩ | ⟨e, hp⟩
    · exact .inl (.inl (.inl hg))
    · rw [e12] at hp
      injection hp with hp
      injection hp with hp
      injection hp with hp
      exact .inl (.inr (by omega))
    · rw [getD_set_ne false (by omega)] at e
      rw [put_ne _ (by omega)] at hp
      exact .inl (.inl (.inr (.inr ⟨e, hp⟩)))
  · rw [getD_set_ne false (by omega), getD_set_ne false (by omega), put_ne _ (by omega)]; exact h.d7
  · rw [getD_set_ne false (by omega), getD_set_ne false (by omega), put_ne _ (by omega)]; exact h.d8
  · rw [getD_set_ne false (by omega), getD_set_ne false (by omega), put_ne _ (by omega)]; exact h.d9
  · rw [getD_set_ne false (by omega)]
    exact fun e => by rw [h.e13 e] at hno; cases hno
  · rw [getD_set_ne false (by omega), getD_set_ne false (by omega), put_ne _ (by omega)]
    intro e
    obtain ⟨b, vs', f1, f2, f3, f4, f5⟩ := h.k12 e
    exact ⟨b, vs', f1, f2, f3, f4.later hb, f5⟩
  · rw [getD_set_ne false (by omega), getD_set_ne false (by omega)]; exact h.d13
  · rw [getD_set_ne false (by omega), getD_set_ne false (by omega)]; exact h.d14
  · exact fun _ => set_self (by omega)
  · rw [getD_set_ne false (by omega), getD_set_ne false (by omega)]; exact h.e14
theorem O8s.al12 (h : O8s w S u v listed a W) (hsz : 16 = listed.size) (hno : listed.getD 12 false = false) (ha : 13 < a.tmps.size) (vs : Array Value) (hv : vs.size = 5) :
    O8s w S u v (listed.setIfInBounds 12 true) (a.put (some 13) (.pointer (some ⟨W.heap.size, 0, none⟩))) (W.alloc (.cells vs 32)) := by
  have hb := below1 W (.cells vs 32)
  have e13 : (a.put (some 13) (.pointer (some ⟨W.heap.size, 0, none⟩))).tmps.getD 13 undef = .pointer (some ⟨W.heap.size, 0, none⟩) := by
    unfold Act.put; simp [ha]
  refine ⟨Ge.trans h.b hb, ?_, ?_, ?_, ?_, ?_, fun _ => ⟨W.heap.size, vs, e13, h.b.size, hv, Blk.new _ _ _, ?_⟩, ?_, ?_, ?_, ?_⟩
  · rw [getD_set_ne false (by omega), put_ne _ (by omega)]
    refine fun e => ⟨(h.d6 e).1, ((h.d6 e).2.weak (S' := fun g => Sf S listed a g ∨ W.heap.size ≤ g) fun g hg => hg).later hb |>.weak fun g hg => ?_⟩
    rcases hg with hg | ⟨e, hp⟩ | ⟨_, hp⟩
    · exact .inl (.inl (.inl hg))
    · rw [getD_set_ne false (by omega)] at e
      rw [put_ne _ (by omega)] at hp
      exact .inl (.inl (.inr (.inl ⟨e, hp⟩)))
    · rw [e13] at hp
      injection hp with hp
      injection hp with hp
      injection hp with hp
      exact .inl (.inr (by omega))
  · rw [getD_set_ne false (by omega), getD_set_ne false (by omega), put_ne _ (by omega)]; exact h.d7
  · rw [getD_set_ne false (by omega), getD_set_ne false (by omega), put_ne _ (by omega)]; exact h.d8
  · rw [getD_set_ne false (by omega), getD_set_ne false (by omega), put_ne _ (by omega)]; exact h.d9
  · rw [getD_set_ne false (by omega), getD_set_ne false (by omega), put_ne _ (by omega)]
    intro e
    obtain ⟨b, vs', f1, f2, f3, f4, f5⟩ := h.k11 e
    exact ⟨b, vs', f1, f2, f3, f4.later hb, f5⟩
  · rw [getD_set_ne false (by omega)]
    exact fun e => by rw [h.e14 e] at hno; cases hno
  · rw [getD_set_ne false (by omega), getD_set_ne false (by omega)]; exact h.d13
  · rw [getD_set_ne false (by omega), getD_set_ne false (by omega)]; exact h.d14
  · rw [getD_set_ne false (by omega), getD_set_ne false (by omega)]; exact h.e13
  · exact fun _ => set_self (by omega)
/-- The stores. -/
theorem O8s.st13 (h : O8s w S u v listed a W) (hsz : 16 = listed.size) (hl6 : listed.getD 6 false = true) (hl11 : listed.getD 11 false = true) {b : Nat} {vs us : Array Value} (e1 : a.tmps.getD 12 undef = .pointer (some ⟨b, 0, none⟩)) (hb : w.heap.size ≤ b) (hB : Blk W b 28 vs) (hu : us.size = 5) (hus : u = .agg us) :
    O8s w S u v (listed.setIfInBounds 13 true) (a.put none undef) (W.setRow b us) := by
  refine ⟨below_row h.b hb _, ?_, ?_, ?_, ?_, ?_, ?_, ?_, ?_, ?_, ?_⟩
  · rw [getD_set_ne false (by omega)]
    refine fun e => ⟨(h.d6 e).1, ((h.d6 e).2.row (.inr (.inl ⟨hl11, e1⟩)) us).weak fun g hg => ?_⟩
    unfold Sf at hg
    rw [getD_set_ne false (by omega), getD_set_ne false (by omega)] at hg
    exact .inl hg
  · rw [getD_set_ne false (by omega), getD_set_ne false (by omega)]; exact h.d7
  · rw [getD_set_ne false (by omega), getD_set_ne false (by omega)]; exact h.d8
  · rw [getD_set_ne false (by omega), getD_set_ne false (by omega)]; exact h.d9
  · exact fun _ => ⟨b, us, e1, hb, hu, hB.row _, fun _ => hus⟩
  · rw [getD_set_ne false (by omega), getD_set_ne false (by omega)]
    intro e
    obtain ⟨c, vs', f1, f2, f3, f4, f5⟩ := h.k12 e
    exact ⟨c, vs', f1, f2, f3, f4.far (blk_ne hB f4 (by decide)) _, f5⟩
  · rw [getD_set_ne (i := 13) (j := 6) false (by omega)]; exact fun _ => hl6
  · rw [getD_set_ne false (by omega), getD_set_ne false (by omega)]; exact h.d14
  · rw [getD_set_ne (i := 13) (j := 11) false (by omega)]; exact fun _ => hl11
  · rw [getD_set_ne false (by omega), getD_set_ne false (by omega)]; exact h.e14
theorem O8s.st14 (h : O8s w S u v listed a W) (hsz : 16 = listed.size) (hl6 : listed.getD 6 false = true) (hl12 : listed.getD 12 false = true) {b : Nat} {vs us : Array Value} (e1 : a.tmps.getD 13 undef = .pointer (some ⟨b, 0, none⟩)) (hb : w.heap.size ≤ b) (hB : Blk W b 32 vs) (hu : us.size = 5) (hus : v = .agg us) :
    O8s w S u v (listed.setIfInBounds 14 true) (a.put none undef) (W.setRow b us) := by
  refine ⟨below_row h.b hb _, ?_, ?_, ?_, ?_, ?_, ?_, ?_, ?_, ?_, ?_⟩
  · rw [getD_set_ne false (by omega)]
    refine fun e => ⟨(h.d6 e).1, ((h.d6 e).2.row (.inr (.inr ⟨hl12, e1⟩)) us).weak fun g hg => ?_⟩
    unfold Sf at hg
    rw [getD_set_ne false (by omega), getD_set_ne false (by omega)] at hg
    exact .inl hg
  · rw [getD_set_ne false (by omega), getD_set_ne false (by omega)]; exact h.d7
  · rw [getD_set_ne false (by omega), getD_set_ne false (by omega)]; exact h.d8
  · rw [getD_set_ne false (by omega), getD_set_ne false (by omega)]; exact h.d9
  · rw [getD_set_ne false (by omega), getD_set_ne false (by omega)]
    intro e
    obtain ⟨c, vs', f1, f2, f3, f4, f5⟩ := h.k11 e
    exact ⟨c, vs', f1, f2, f3, f4.far (blk_ne hB f4 (by decide)) _, f5⟩
  · exact fun _ => ⟨b, us, e1, hb, hu, hB.row _, fun _ => hus⟩
  · rw [getD_set_ne false (by omega), getD_set_ne false (by omega)]; exact h.d13
  · rw [getD_set_ne (i := 14) (j := 6) false (by omega)]; exact fun _ => hl6
  · rw [getD_set_ne false (by omega), getD_set_ne false (by omega)]; exact h.e13
  · rw [getD_set_ne (i := 14) (j := 12) false (by omega)]; exact fun _ => hl12
end
end Go.Proofs.Ytpgbbbgblgkokaa
