/- For the law TableOwn: a copy of a table laid into a new block, a call's table laid into a new block, in whatever order; tables whose lists may be written. -/
import Derived.Test.YtpgbbbgblgkokaaTbO8
import Derived.Test.YtpgbbbgblgkokaaTbP
import Derived.Deep.MidRow
namespace Go.Proofs.Ytpgbbbgblgkokaa
open Go.RowKit Go.Lib
set_option linter.unusedVariables false

/-- Three rows that no other row's writing reaches. -/
structure TRows (base : Nat) (A : Option Addr) (m p : Nat) (B : Option Addr) (k q : Nat) (C : Option Addr) (n r : Nat) (o l f : List Int) (W : World) : Prop where
  a : W.ownsRow base 3 1 (.slice A m p) m (iv .i64 o)
  b : W.ownsRow base 3 1 (.slice B k q) k (iv .i64 l)
  c : W.ownsRow base 23 1 (.slice C n r) n (iv .u64 f)
section
variable {base : Nat} {A : Option Addr} {m p : Nat} {B : Option Addr} {k q : Nat} {C : Option Addr} {n r : Nat} {o l f : List Int} {W W' : World}
theorem TRows.later (h : TRows base A m p B k q C n r o l f W) (hb : Below W.heap.size W W') : TRows base A m p B k q C n r o l f W' := ⟨own_later h.a hb, own_later h.b hb, own_later h.c hb⟩
theorem TRows.far (h : TRows base A m p B k q C n r o l f W) {b : Nat} {cs : Array Value} (hB : Blk W b 32 cs) (vs : Array Value) : TRows base A m p B k q C n r o l f (W.setRow b vs) :=
  ⟨own_far h.a hB (by decide) vs, own_far h.b hB (by decide) vs, own_far h.c hB (by decide) vs⟩
theorem TRows.tin (h : TRows base A m p B k q C n r o l f W) : TIn W A m B k C n o l f := ⟨own_sl h.a, own_sl h.b, own_sl h.c⟩
end
/-- What a slot is known to hold while a table is copied. -/
inductive CndR where
  | any
  | is (v : Value)
  | emp
  | own (κ : IntKind) (e : TypeId) (base m : Nat) (l : List Int)
  | rows (base : Nat) (sg st : Int) (m k n : Nat) (o l f : List Int)
def CndR.p : CndR → World → Value → Prop
  | .any => fun _ _ => True
  | .is v => fun _ u => u = v
  | .emp => fun _ u => ∃ g, u = .slice (some ⟨g, 0, none⟩) 0 0
  | .own κ e base m l => fun W u => e ≠ 32 ∧ ∃ g p, u = .slice (some ⟨g, 0, none⟩) m p ∧ W.ownsRow base e 1 (.slice (some ⟨g, 0, none⟩) m p) m (iv κ l)
  | .rows base sg st m k n o l f => fun W u => ∃ A p B q C r, u = .agg #[.int .i64 sg, .int .i64 st, .slice A m p, .slice B k q, .slice C n r] ∧ TRows base A m p B k q C n r o l f W
theorem CndR.later (c : CndR) {W W' : World} {u : Value} (hb : Below W.heap.size W W') (h : c.p W u) : c.p W' u := by
  cases c with
  | any => exact trivial
  | is v => exact h
  | emp => exact h
  | own κ e base m l => obtain ⟨hne, g, p, e1, ho⟩ := h; exact ⟨hne, g, p, e1, own_later ho hb⟩
  | rows => obtain ⟨A, p, B, q, C, r, e1, ho⟩ := h; exact ⟨A, p, B, q, C, r, e1, ho.later hb⟩
theorem CndR.far (c : CndR) {W : World} {u : Value} {b : Nat} {cs : Array Value} (hB : Blk W b 32 cs) (vs : Array Value) (h : c.p W u) : c.p (W.setRow b vs) u := by
  cases c with
  | any => exact trivial
  | is v => exact h
  | emp => exact h
  | own κ e base m l => obtain ⟨hne, g, p, e1, ho⟩ := h; exact ⟨hne, g, p, e1, own_far ho hB hne vs⟩
  | rows => obtain ⟨A, p, B, q, C, r, e1, ho⟩ := h; exact ⟨A, p, B, q, C, r, e1, ho.far hB vs⟩
theorem CndR.lift {cs : List CndR} {W W' : World} {j : Nat} {u : Value} (hc : ∀ c : CndR, c.p W u → c.p W' u) (h : Free.V (cs.map CndR.p) j W u) : Free.V (cs.map CndR.p) j W' u := by
  unfold Free.V at *
  cases hi : cs[j]? with
  | none => simp only [List.getD_eq_getElem?_getD, List.getElem?_map, hi]; exact trivial
  | some c =>
    simp only [List.getD_eq_getElem?_getD, List.getElem?_map, hi, Option.map_some, Option.getD_some] at h ⊢
    exact hc c h
theorem CndR.keep {cs : List CndR} {W W' : World} {j : Nat} {u : Value} (hb : Below W.heap.size W W') (h : Free.V (cs.map CndR.p) j W u) : Free.V (cs.map CndR.p) j W' u := CndR.lift (fun c => c.later hb) h
theorem slot_ownr {xs : Array Value} {i base m : Nat} {κ : IntKind} {e t : TypeId} {l : List Int} {W : World} (h : e ≠ t ∧ ∃ g p, xs.getD i undef = .slice (some ⟨g, 0, none⟩) m p ∧ W.ownsRow base e 1 (.slice (some ⟨g, 0, none⟩) m p) m (iv κ l)) :
    ∃ g p, xs[i]?.getD undef = .slice (some ⟨g, 0, none⟩) m p ∧ W.ownsRow base e 1 (.slice (some ⟨g, 0, none⟩) m p) m (iv κ l) := by simpa using h.2
/-- While the copy is laid into its block. -/
structure OzC (w : World) (sg st : Int) (m k n : Nat) (o l f : List Int) (listed : Array Bool) (a : Act) (W : World) : Prop where
  b : Below w.heap.size w W
  ord : listed.getD 18 false = true → listed.getD 17 false = true
  blk : listed.getD 17 false = true → ∃ b, a.tmps.getD 5 undef = .pointer (some ⟨b, 0, none⟩) ∧ w.heap.size ≤ b ∧ (listed.getD 18 false = false → Blk W b 32 (csT 0 0 none 0 0 none 0 0 none 0 0)) ∧
    (listed.getD 18 false = true → ∃ A p B q C r, Blk W b 32 (csT sg st A m p B k q C n r) ∧ TRows w.heap.size A m p B k q C n r o l f W)
section
variable {w : World} {m k n : Nat} {sg st : Int} {o l f : List Int} {listed : Array Bool} {a : Act} {W W' : World}
theorem OzC.step (h : OzC w sg st m k n o l f listed a W) (i d : Nat) (v : Value) (h1 : i ≠ 17) (h2 : i ≠ 18) (hd : d ≠ 5) (hb : Below W.heap.size W W') : OzC w sg st m k n o l f (listed.setIfInBounds i true) (a.put (some d) v) W' := by
  have e1 : (listed.setIfInBounds i true).getD 17 false = listed.getD 17 false := getD_set_ne false h1
  have e2 : (listed.setIfInBounds i true).getD 18 false = listed.getD 18 false := getD_set_ne false h2
  refine ⟨Ge.trans h.b hb, by rw [e1, e2]; exact h.ord, ?_⟩
  rw [e1, e2]
  intro hl
  obtain ⟨b, q1, q2, q3, q4⟩ := h.blk hl
  refine ⟨b, (Free.slot_ne v hd).trans q1, q2, fun e => (q3 e).later hb, fun e => ?_⟩
  obtain ⟨A, p, B, q, C, r, k1, k2⟩ := q4 e
  exact ⟨A, p, B, q, C, r, k1.later hb, k2.later hb⟩
theorem OzC.alloc (h : OzC w sg st m k n o l f listed a W) (hi : listed.size = 19) (ha : 5 < a.tmps.size) (hno : listed.getD 17 true = false) :
    OzC w sg st m k n o l f (listed.setIfInBounds 17 true) (a.put (some 5) (.pointer (some ⟨W.heap.size, 0, none⟩))) (W.alloc (.cells (csT 0 0 none 0 0 none 0 0 none 0 0) 32)) := by
  have e2 : (listed.setIfInBounds 17 true).getD 18 false = listed.getD 18 false := getD_set_ne false (by omega)
  have e1 : (listed.setIfInBounds 17 true).getD 17 false = true := by simp [hi]
  have f1 := not_listed (by omega) hno
  have hb := below1 W (.cells (csT 0 0 none 0 0 none 0 0 none 0 0) 32)
  refine ⟨Ge.trans h.b hb, fun _ => e1, fun _ => ⟨W.heap.size, ?_, h.b.size, fun _ => Blk.new _ _ _, fun e => ?_⟩⟩
  · unfold Act.put
    simp [ha]
  · rw [e2] at e
    have := h.ord e
    rw [f1] at this
    exact absurd this (by decide)
theorem OzC.store (h : OzC w sg st m k n o l f listed a W) (hi : listed.size = 19) {b : Nat} (hl : listed.getD 17 false = true) (hs : a.tmps.getD 5 undef = .pointer (some ⟨b, 0, none⟩)) {A : Option Addr} {p : Nat} {B : Option Addr} {q : Nat} {C : Option Addr} {r : Nat}
    (hB : Blk W b 32 (csT 0 0 none 0 0 none 0 0 none 0 0)) (hbb : w.heap.size ≤ b) (R : TRows w.heap.size A m p B k q C n r o l f W) :
    OzC w sg st m k n o l f (listed.setIfInBounds 18 true) (a.put none undef) (W.setRow b (csT sg st A m p B k q C n r)) := by
  have e1 : (listed.setIfInBounds 18 true).getD 17 false = listed.getD 17 false := getD_set_ne false (by omega)
  have e2 : (listed.setIfInBounds 18 true).getD 18 false = true := by simp [hi]
  refine ⟨below_row h.b hbb _, fun _ => by rw [e1]; exact hl, fun _ => ⟨b, hs, hbb, fun e => ?_, fun _ => ⟨A, p, B, q, C, r, hB.row _, R.far hB _⟩⟩⟩
  rw [e2] at e
  exact absurd e (by decide)
end

/-- A list that may be written: where it lies, its cells are there. -/
def Wr (base top : Nat) (A : Option Addr) (m : Nat) (W : World) : Prop := 0 < m → ∃ b o, A = some ⟨b, o, none⟩ ∧ base ≤ b ∧ b < top ∧ ∀ j, j < m → (∃ v, W.cell? ⟨b, o + j, none⟩ = some v) ∧ W.frozen? ⟨b, o + j, none⟩ = false
section
variable {base base' top top' m : Nat} {A : Option Addr} {W W' : World}
theorem Wr.of (h : Fresh W base' A m) (hb : base ≤ base') : Wr base W.heap.size A m W := fun hm => by
  obtain ⟨b, o, e, h1, h2⟩ := h hm
  obtain ⟨v, hv⟩ := (h2 0 hm).1
  exact ⟨b, o, e, by omega, World.block_lt_of_cell? W _ hv, h2⟩
theorem Wr.wide (h : Wr base top A m W) (ht : top ≤ top') : Wr base top' A m W := fun hm => by
  obtain ⟨b, o, e, h1, h2, h3⟩ := h hm
  exact ⟨b, o, e, h1, by omega, h3⟩
theorem Wr.later (h : Wr base top A m W) (ht : top ≤ W.heap.size) (hb : Below W.heap.size W W') : Wr base top A m W' := fun hm => by
  obtain ⟨b, o, e, h1, h2, h3⟩ := h hm
  refine ⟨b, o, e, h1, h2, fun j hj => ?_⟩
  rw [hb.cell (p := ⟨b, o + j, none⟩) (by simp only; omega), hb.frozen (p := ⟨b, o + j, none⟩) (by simp only; omega)]
  exact h3 j hj
theorem cell_some_set {W : World} {x : Addr} (h : ∃ v, W.cell? x = some v) (b o : Nat) (u : Value) : ∃ v, (W.setCell ⟨b, o, none⟩ u).cell? x = some v := by
  obtain ⟨v, hv⟩ := h
  have := World.isSome_setCells b [u] o W x (by rw [hv]; rfl)
  exact Option.isSome_iff_exists.1 this
theorem Wr.set (h : Wr base top A m W) (g i : Nat) (u : Value) : Wr base top A m (W.setCell ⟨g, i, none⟩ u) := fun hm => by
  obtain ⟨b, o, e, h1, h2, h3⟩ := h hm
  refine ⟨b, o, e, h1, h2, fun j hj => ⟨cell_some_set (h3 j hj).1 g i u, ?_⟩⟩
  rw [World.frozen?_setCell]
  exact (h3 j hj).2
theorem Wr.row (h : Wr base top A m W) {g : Nat} {t : TypeId} {vs us : Array Value} (hB : Blk W g t vs) (hs : us.size = vs.size) : Wr base top A m (W.setRow g us) := fun hm => by
  obtain ⟨b, o, e, h1, h2, h3⟩ := h hm
  refine ⟨b, o, e, h1, h2, fun j hj => ?_⟩
  by_cases hg : b = g
  · subst hg
    obtain ⟨⟨v, hv⟩, hf⟩ := h3 j hj
    rw [hB.cell (o + j)] at hv
    have hlt := (Array.getElem?_eq_some_iff.1 hv).1
    rw [(hB.row us).cell (o + j), (hB.row us).frozen (o + j)]
    exact ⟨⟨us[o + j]'(by omega), Array.getElem?_eq_getElem (by omega)⟩, rfl⟩
  · have e1 := World.cell?_of_block (w := W) (w' := W.setRow g us) (a := ⟨b, o + j, none⟩) (setRow_other W g b us hg)
    have e2 := World.frozen?_of_block (w := W) (w' := W.setRow g us) (a := ⟨b, o + j, none⟩) (setRow_other W g b us hg)
    rw [e1, e2]
    exact h3 j hj
end
/-- A table whose lists may be written. -/
def PRv (base : Nat) (u : Value) (W : World) : Prop := ∃ (sg st : Int) (A : Option Addr) (m p : Nat) (B : Option Addr) (k q : Nat) (C : Option Addr) (n r : Nat), u = .agg #[.int .i64 sg, .int .i64 st, .slice A m p, .slice B k q, .slice C n r] ∧ (m ≤ 30 ∧ k ≤ 30 ∧ n ≤ 30) ∧ Wr base W.heap.size A m W ∧ Wr base W.heap.size B k W ∧ Wr base W.heap.size C n W
section
variable {base : Nat} {u : Value} {W W' : World}
theorem PRv.later (h : PRv base u W) (hb : Below W.heap.size W W') : PRv base u W' := by
  obtain ⟨sg, st, A, m, p, B, k, q, C, n, r, e, hl, h1, h2, h3⟩ := h
  exact ⟨sg, st, A, m, p, B, k, q, C, n, r, e, hl, (h1.later (Nat.le_refl _) hb).wide hb.size, (h2.later (Nat.le_refl _) hb).wide hb.size, (h3.later (Nat.le_refl _) hb).wide hb.size⟩
theorem PRv.row (h : PRv base u W) {g : Nat} {t : TypeId} {vs us : Array Value} (hB : Blk W g t vs) (hs : us.size = vs.size) : PRv base u (W.setRow g us) := by
  obtain ⟨sg, st, A, m, p, B, k, q, C, n, r, e, hl, h1, h2, h3⟩ := h
  refine ⟨sg, st, A, m, p, B, k, q, C, n, r, e, hl, ?_⟩
  rw [row_size]
  exact ⟨h1.row hB hs, h2.row hB hs, h3.row hB hs⟩
end
theorem PRv.parts {sg st : Int} {A : Option Addr} {m p : Nat} {B : Option Addr} {k q : Nat} {C : Option Addr} {n r : Nat} {base : Nat} {W : World} (h : PRv base (.agg #[.int .i64 sg, .int .i64 st, .slice A m p, .slice B k q, .slice C n r]) W) : (m ≤ 30 ∧ k ≤ 30 ∧ n ≤ 30) ∧ Wr base W.heap.size A m W ∧ Wr base W.heap.size B k W ∧ Wr base W.heap.size C n W := by
  obtain ⟨sg1, st1, A1, m1, p1, B1, k1, q1, C1, n1, r1, e, hl, h1, h2, h3⟩ := h
  injection e with e
  simp at e
  obtain ⟨_, _, ⟨rfl, rfl, rfl⟩, ⟨rfl, rfl, rfl⟩, rfl, rfl, rfl⟩ := e
  exact ⟨hl, h1, h2, h3⟩
/-- What a slot is known to hold while a call's table is laid into a new block. -/
inductive CndP where
  | any
  | is (v : Value)
  | tup (base : Nat) (y : Int)
  | tab (base : Nat)
def CndP.p : CndP → World → Value → Prop
  | .any => fun _ _ => True
  | .is v => fun _ u => u = v
  | .tup base y => fun W u => ∃ x, u = .tuple #[x, .int .i64 y] ∧ PRv base x W
  | .tab base => fun W u => PRv base u W
theorem CndP.later (c : CndP) {W W' : World} {u : Value} (hb : Below W.heap.size W W') (h : c.p W u) : c.p W' u := by
  cases c with
  | any => exact trivial
  | is v => exact h
  | tup base y => obtain ⟨x, e, hx⟩ := h; exact ⟨x, e, hx.later hb⟩
  | tab base => exact PRv.later h hb
theorem CndP.row (c : CndP) {W : World} {u : Value} {g : Nat} {t : TypeId} {vs us : Array Value} (hB : Blk W g t vs) (hs : us.size = vs.size) (h : c.p W u) : c.p (W.setRow g us) u := by
  cases c with
  | any => exact trivial
  | is v => exact h
  | tup base y => obtain ⟨x, e, hx⟩ := h; exact ⟨x, e, hx.row hB hs⟩
  | tab base => exact PRv.row h hB hs
theorem CndP.lift {cs : List CndP} {W W' : World} {j : Nat} {u : Value} (hc : ∀ c : CndP, c.p W u → c.p W' u) (h : Free.V (cs.map CndP.p) j W u) : Free.V (cs.map CndP.p) j W' u := by
  unfold Free.V at *
  cases hi : cs[j]? with
  | none => simp only [List.getD_eq_getElem?_getD, List.getElem?_map, hi]; exact trivial
  | some c =>
    simp only [List.getD_eq_getElem?_getD, List.getElem?_map, hi, Option.map_some, Option.getD_some] at h ⊢
    exact hc c h
theorem CndP.keep {cs : List CndP} {W W' : World} {j : Nat} {u : Value} (hb : Below W.heap.size W W') (h : Free.V (cs.map CndP.p) j W u) : Free.V (cs.map CndP.p) j W' u := CndP.lift (fun c => c.later hb) h
theorem slot_tup {xs : Array Value} {i base : Nat} {y : Int} {W : World} (h : ∃ x, xs.getD i undef = .tuple #[x, .int .i64 y] ∧ PRv base x W) : ∃ x, xs[i]?.getD undef = .tuple #[x, .int .i64 y] ∧ PRv base x W := by simpa using h
/-- While it is laid there: operation 9 makes the block (slot 10), operation 10 fills it. -/
structure DpC (w : World) (base : Nat) (listed : Array Bool) (a : Act) (W : World) : Prop where
  b : Below w.heap.size w W
  ord : listed.getD 10 false = true → listed.getD 9 false = true
  blk : listed.getD 9 false = true → ∃ b vs, a.tmps.getD 10 undef = .pointer (some ⟨b, 0, none⟩) ∧ w.heap.size ≤ b ∧ vs.size = 5 ∧ Blk W b 28 vs ∧ (listed.getD 10 false = true → PRv base (.agg vs) W)
section
variable {w : World} {base : Nat} {listed : Array Bool} {a : Act} {W W' : World}
theorem DpC.step (h : DpC w base listed a W) (i d : Nat) (v : Value) (h1 : i ≠ 9) (h2 : i ≠ 10) (hd : d ≠ 10) (hb : Below W.heap.size W W') : DpC w base (listed.setIfInBounds i true) (a.put (some d) v) W' := by
  have e1 : (listed.setIfInBounds i true).getD 9 false = listed.getD 9 false := getD_set_ne false h1
  have e2 : (listed.setIfInBounds i true).getD 10 false = listed.getD 10 false := getD_set_ne false h2
  refine ⟨Ge.trans h.b hb, by rw [e1, e2]; exact h.ord, ?_⟩
  rw [e1, e2]
  intro hl
  obtain ⟨b, vs, q1, q2, q3, q4, q5⟩ := h.blk hl
  exact ⟨b, vs, (Free.slot_ne v hd).trans q1, q2, q3, q4.later hb, fun e => (q5 e).later hb⟩
theorem DpC.alloc (h : DpC w base listed a W) (hi : listed.size = 12) (ha : 10 < a.tmps.size) (hno : listed.getD 9 true = false) (vs : Array Value) (hv : vs.size = 5) :
    DpC w base (listed.setIfInBounds 9 true) (a.put (some 10) (.pointer (some ⟨W.heap.size, 0, none⟩))) (W.alloc (.cells vs 28)) := by
  have e2 : (listed.setIfInBounds 9 true).getD 10 false = listed.getD 10 false := getD_set_ne false (by omega)
  have e1 : (listed.setIfInBounds 9 true).getD 9 false = true := by simp [hi]
  have f1 := not_listed (by omega) hno
  have hb := below1 W (.cells vs 28)
  refine ⟨Ge.trans h.b hb, fun _ => e1, fun _ => ⟨W.heap.size, vs, ?_, h.b.size, hv, Blk.new _ _ _, fun e => ?_⟩⟩
  · unfold Act.put
    simp [ha]
  · rw [e2] at e
    have := h.ord e
    rw [f1] at this
    exact absurd this (by decide)
theorem DpC.store (h : DpC w base listed a W) (hi : listed.size = 12) {b : Nat} {vs us : Array Value} (hl : listed.getD 9 false = true) (hs : a.tmps.getD 10 undef = .pointer (some ⟨b, 0, none⟩))
    (hB : Blk W b 28 vs) (hv : vs.size = 5) (hu : us.size = 5) (hbb : w.heap.size ≤ b) (R : PRv base (.agg us) W) :
    DpC w base (listed.setIfInBounds 10 true) (a.put none undef) (W.setRow b us) := by
  have e1 : (listed.setIfInBounds 10 true).getD 9 false = listed.getD 9 false := getD_set_ne false (by omega)
  refine ⟨below_row h.b hbb _, fun _ => by rw [e1]; exact hl, fun _ => ⟨b, us, hs, hbb, hu, hB.row _, fun _ => R.row hB (by omega)⟩⟩
end

/-- Three tables in a row (block bL), whose lists may be written: all that was there ahead of base stays as it was. -/
structure OwI (W0 : World) (base bL : Nat) (AA : Nat → Option Addr) (MM PP : Nat → Nat) (BB : Nat → Option Addr) (KK QQ : Nat → Nat) (CC : Nat → Option Addr) (NN RR : Nat → Nat) (W : World) : Prop where
  b : Below base W0 W
  x : ∀ i, i < 3 → W.cell? ⟨bL, i * 5 + 2, none⟩ = some (.slice (AA i) (MM i) (PP i)) ∧ W.cell? ⟨bL, i * 5 + 3, none⟩ = some (.slice (BB i) (KK i) (QQ i)) ∧ W.cell? ⟨bL, i * 5 + 4, none⟩ = some (.slice (CC i) (NN i) (RR i))
  l : ∀ i, i < 3 → MM i ≤ 30 ∧ KK i ≤ 30 ∧ NN i ≤ 30
  r : ∀ i, i < 3 → Wr base bL (AA i) (MM i) W ∧ Wr base bL (BB i) (KK i) W ∧ Wr base bL (CC i) (NN i) W
theorem OwI.set {W0 W : World} {base bL : Nat} {AA : Nat → Option Addr} {MM PP : Nat → Nat} {BB : Nat → Option Addr} {KK QQ : Nat → Nat} {CC : Nat → Option Addr} {NN RR : Nat → Nat} (h : OwI W0 base bL AA MM PP BB KK QQ CC NN RR W) {g : Nat} (h1 : base ≤ g) (h2 : g < bL) (i : Nat) (u : Value) :
    OwI W0 base bL AA MM PP BB KK QQ CC NN RR (W.setCell ⟨g, i, none⟩ u) := by
  refine ⟨Below.setCell (p := ⟨g, i, none⟩) h.b h1 u, fun j hj => ?_, h.l, fun j hj => ⟨(h.r j hj).1.set g i u, (h.r j hj).2.1.set g i u, (h.r j hj).2.2.set g i u⟩⟩
  obtain ⟨x1, x2, x3⟩ := h.x j hj
  have hb : (W.setCell ⟨g, i, none⟩ u).heap[bL]? = W.heap[bL]? := Below.heap_setCell W ⟨g, i, none⟩ u bL (by simp only; omega)
  exact ⟨(World.cell?_of_block (w := W) (a := ⟨bL, j * 5 + 2, none⟩) hb).trans x1, (World.cell?_of_block (w := W) (a := ⟨bL, j * 5 + 3, none⟩) hb).trans x2, (World.cell?_of_block (w := W) (a := ⟨bL, j * 5 + 4, none⟩) hb).trans x3⟩
/-- Three tables, by their number. -/
theorem by3 {α : Type} (a b c : α) : ∃ F : Nat → α, F 0 = a ∧ F 1 = b ∧ F 2 = c := ⟨fun i => match i with | 0 => a | 1 => b | _ => c, rfl, rfl, rfl⟩
theorem roll_len {t : Tab} {x : Int} (h : okP t) : (tabOf (rollT t x)).o.length ≤ 30 ∧ (tabOf (rollT t x)).l.length ≤ 30 ∧ (tabOf (rollT t x)).f.length ≤ 30 := by
  cases hr : rollT t x with
  | none => exact ⟨by simp [tabOf, zeroT], by simp [tabOf, zeroT], by simp [tabOf, zeroT]⟩
  | some u => have := ok_bd (roll_ok h hr); exact ⟨by simp only [tabOf, Option.getD_some]; omega, by simp only [tabOf, Option.getD_some]; omega, by simp only [tabOf, Option.getD_some]; omega⟩
theorem count_len {t : Tab} (h : okP t) : (tabOf (countT t)).o.length ≤ 30 ∧ (tabOf (countT t)).l.length ≤ 30 ∧ (tabOf (countT t)).f.length ≤ 30 := by
  cases hr : countT t with
  | none => exact ⟨by simp [tabOf, zeroT], by simp [tabOf, zeroT], by simp [tabOf, zeroT]⟩
  | some u => have := ok_bd (count_ok h hr); exact ⟨by simp only [tabOf, Option.getD_some]; omega, by simp only [tabOf, Option.getD_some]; omega, by simp only [tabOf, Option.getD_some]; omega⟩
theorem drop_len {t : Tab} {x : Int} (h : okP t) : (tabOf (dropT t x)).o.length ≤ 30 ∧ (tabOf (dropT t x)).l.length ≤ 30 ∧ (tabOf (dropT t x)).f.length ≤ 30 := by
  cases hr : dropT t x with
  | none => exact ⟨by simp [tabOf, zeroT], by simp [tabOf, zeroT], by simp [tabOf, zeroT]⟩
  | some u => have := ok_bd (drop_ok h hr); exact ⟨by simp only [tabOf, Option.getD_some]; omega, by simp only [tabOf, Option.getD_some]; omega, by simp only [tabOf, Option.getD_some]; omega⟩
theorem err_two (r : Option Tab) (e : Int) : errOf r e = 0 ∨ errOf r e = e := by cases r <;> simp [errOf]
end Go.Proofs.Ytpgbbbgblgkokaa
