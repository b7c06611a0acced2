/- The document's Free, whose list is its own; the start of its Count and Roll: a table with lists of its own in a new block, whatever the order. -/
import Derived.Test.YtpgbbbgblgkokaaTbR
namespace Go.Proofs.Ytpgbbbgblgkokaa
open Go.RowKit Go.Lib
set_option linter.unusedVariables false

def LstO (l : List Int) (w : World) (en : Ending) (w' : World) : Prop := ∃ A m p, en = .returned (.slice A m p) ∧ w'.ownsRow w.heap.size 3 1 (.slice A m p) m (iv .i64 l) ∧ Below w.heap.size w w'
set_option maxHeartbeats 2000000 in
theorem rfree_mainO (N : Nat) (st : Int) (A : Option Addr) (m p : Nat) (B : Option Addr) (k q : Nat) (C : Option Addr) (n r : Nat) (o l f : List Int) (w : World) (h : TIn w A m B k C n o l f) (hm : m ≤ maxLen) (hN : N ≤ 16) :
    Calls Try.prog 18 #[.agg #[.int .i64 (N : Int), .int .i64 st, .slice A m p, .slice B k q, .slice C n r]] w (LstO (freeTo o N) w) := by
  have HT := Lib.hid h
  have hb0 := below1 w (.cells #[.int .i64 (N : Int), .int .i64 st, .slice A m p, .slice B k q, .slice C n r] 32)
  have hb1 := below1 (w.alloc (.cells #[.int .i64 (N : Int), .int .i64 st, .slice A m p, .slice B k q, .slice C n r] 32)) (.cells #[] 3)
  have I0 : Hid (FrI w (N : Int) st A m p B k q C n r o 0 (some ⟨w.heap.size + 1, 0, none⟩) 0 0 ((w.alloc (.cells #[.int .i64 (N : Int), .int .i64 st, .slice A m p, .slice B k q, .slice C n r] 32)).alloc (.cells #[] 3))) := Lib.hid
    ⟨Ge.trans hb0 hb1, (Blk.new w _ _).later hb1, by
      have := World.ownsRow_lit (base := w.heap.size + 1) (e := 3) (size := 1) (w.alloc (.cells #[.int .i64 (N : Int), .int .i64 st, .slice A m p, .slice B k q, .slice C n r] 32)) #[] 0 (by simp) (Nat.zero_le _) rfl
      rw [show (w.alloc (.cells #[.int .i64 (N : Int), .int .i64 st, .slice A m p, .slice B k q, .slice C n r] 32)).heap.size = w.heap.size + 1 by simp] at this
      rw [freeTo_zero]
      exact this⟩
  clear hb0 hb1 h
  go_enter Try.func18, Try.ntmps18
  go_wp2_with fail
  go_loopg [3, 4] N (fun gk s3 s4 wr => ∃ i : Nat, ∃ D c e, i ≤ N ∧ gk = N - i ∧ s4 = .int .i64 i ∧ s3 = .slice D c e ∧ Hid (FrI w (N : Int) st A m p B k q C n r o i D c e wr))
  case atStart => exact ⟨0, _, _, _, by omega, rfl, rfl, rfl, I0⟩
  case round =>
    obtain ⟨i, D, c, e, hi, hgk, rfl, rfl, HI⟩ := hrel
    have HG := Lib.hid hgk
    clear hgk
    have c0 : wr.cell? ⟨w.heap.size, 0, none⟩ = some (.int .i64 (N : Int)) := HI.out.z.cell 0
    by_cases hlt : i < N
    · have hlti : (i : Int) < (N : Int) := by omega
      have HZ := Lib.hid HI.out.z
      obtain ⟨y, HY⟩ : ∃ y, Hid (idx o (i : Int) = y) := ⟨_, Lib.hid rfl⟩
      have K := Lib.hid (in_is (N : Int) st A m p B k q C n r o l f (i : Int) y wr (HT.out.later HI.out.b) hm HY.out)
      by_cases hy : y < 0
      · have HO : Hid ((i : Int) ∉ o) := Lib.hid (idx_neg.1 (by rw [HY.out]; exact hy))
        go_wp2_with (with_reducible refine load_r rfl (.tmp 1) rfl w.heap.size rfl HZ.out ?_)
        refine K.out.mono ?_
        rintro e' w1 ⟨rfl, hb⟩
        have I1 := HI.out.later hb
        have hbb := below1 w1 (.cells #[.int .i64 (i : Int)] 3)
        have I2 := I1.later hbb
        have hcl : c < 1000 := by
          have := I1.d.1
          rw [iv_len] at this
          have := freeTo_len o i
          omega
        obtain ⟨g, e2, W5, hrun, own5, g5, hat, hg⟩ := push_run (T := 25) Try.underlying25 infoI rfl I2.d hcl ((Blk.new w1 3 #[.int .i64 (i : Int)]).cell 0) (by have := I2.z.lt; omega)
        have hrow : ∀ j, ob D = some j → w.heap.size + 1 ≤ j := fun j hj => (I2.d.lt j (by rw [ob_eq]; exact hj)).1
        have I5 : Hid (FrI w (N : Int) st A m p B k q C n r o (i + 1) (some ⟨g, 0, none⟩) (c + 1) e2 W5) := Lib.hid
          ⟨I2.b.grown g5 I2.b.size (fun j hj => by have := hrow j hj; omega), blk_grown I2.z g5 (fun e => by have := hrow _ e.symm; omega), by rw [freeTo_yes HO.out]; exact own5⟩
        have HR := Lib.hid hrun
        clear hrun own5 g5 hat hg hrow I1 I2 hbb hb K c0
        go_wp2_with (at_builtin; refine list_append_run rfl (.tmp 16) (.tmp 18) 25 rfl _ _ rfl rfl HR.out ?_)
        go_roundg (N - (i + 1))
        case measure => have := HG.out; omega
        case rel => exact ⟨i + 1, _, _, _, by omega, rfl, by go_num, rfl, I5⟩
      · have HO : Hid ((i : Int) ∈ o) := Lib.hid (Decidable.byContradiction fun hn => hy (by rw [← HY.out]; exact idx_neg.2 hn))
        go_wp2_with (with_reducible refine load_r rfl (.tmp 1) rfl w.heap.size rfl HZ.out ?_)
        refine K.out.mono ?_
        rintro e' w1 ⟨rfl, hb⟩
        have I1 : Hid (FrI w (N : Int) st A m p B k q C n r o (i + 1) D c e w1) := Lib.hid (by
          have := HI.out.later hb
          exact ⟨this.b, this.z, by rw [freeTo_no HO.out]; exact this.d⟩)
        clear hb K c0
        go_wp2_with fail
        go_roundg (N - (i + 1))
        case measure => have := HG.out; omega
        case rel => exact ⟨i + 1, D, c, e, by omega, rfl, by go_num, rfl, I1⟩
    · obtain rfl : i = N := by omega
      have hlti : ¬ (i : Int) < (i : Int) := by omega
      go_wp2_with fail
      go_ret
      exact ⟨D, c, e, rfl, own_base HI.out.d (by omega), HI.out.b⟩

theorem rfree_own (sg st : Int) (A : Option Addr) (m p : Nat) (B : Option Addr) (k q : Nat) (C : Option Addr) (n r : Nat) (o l f : List Int) (w : World) (h : TIn w A m B k C n o l f) (hm : m ≤ maxLen) (hs : 0 ≤ sg ∧ sg ≤ 16) : Calls Try.prog 18 #[.agg #[.int .i64 sg, .int .i64 st, .slice A m p, .slice B k q, .slice C n r]] w (LstO (freeT ⟨sg, st, o, l, f⟩) w) := by
  obtain ⟨N, rfl⟩ := Int.eq_ofNat_of_zero_le hs.1
  exact rfree_mainO N st A m p B k q C n r o l f w h hm (by omega)

/-- What a call of the document's tells: a table with lists of its own. -/
def RefF (t : Tab) (y : Int) (w : World) (en : Ending) (w' : World) : Prop :=
  ∃ A m p B k q C n r, en = .returned (.tuple #[.agg #[.int .i64 t.sg, .int .i64 t.st, .slice A m p, .slice B k q, .slice C n r], .int .i64 y]) ∧ TIn w' A m B k C n t.o t.l t.f ∧ (Fresh w' w.heap.size A m ∧ Fresh w' w.heap.size B k ∧ Fresh w' w.heap.size C n) ∧ Below w.heap.size w w'
theorem zero_reff (y : Int) (w w' : World) (hb : Below w.heap.size w w') : RefF zeroT y w (.returned (.tuple #[.agg #[.int .i64 0, .int .i64 0, .slice none 0 0, .slice none 0 0, .slice none 0 0], .int .i64 y])) w' :=
  ⟨none, 0, 0, none, 0, 0, none, 0, 0, rfl, TIn.zero _, ⟨fresh_nil _ _ _, fresh_nil _ _ _, fresh_nil _ _ _⟩, hb⟩
/-- The same, field by field. -/
def RefV (sg st : Int) (o l f : List Int) (y : Int) (w : World) (en : Ending) (w' : World) : Prop :=
  ∃ A m p B k q C n r, en = .returned (.tuple #[.agg #[.int .i64 sg, .int .i64 st, .slice A m p, .slice B k q, .slice C n r], .int .i64 y]) ∧ TIn w' A m B k C n o l f ∧ (Fresh w' w.heap.size A m ∧ Fresh w' w.heap.size B k ∧ Fresh w' w.heap.size C n) ∧ Below w.heap.size w w'
theorem refv {P : Program} {f : FuncId} {args : Array Value} {w : World} {t : Tab} {y y' sg st : Int} {o l f' : List Int} (h : Calls P f args w (RefF t y w)) (ht : t = ⟨sg, st, o, l, f'⟩) (hy : y = y') : Calls P f args w (RefV sg st o l f' y' w) := by
  subst ht hy; exact h

theorem own_far {W : World} {base b n : Nat} {e T : TypeId} {v : Value} {xs : List Value} {cs : Array Value} (h : W.ownsRow base e 1 v n xs) (hB : Blk W b T cs) (hne : e ≠ T) (vs : Array Value) : (W.setRow b vs).ownsRow base e 1 v n xs := by
  refine ⟨h.1, ?_⟩
  rcases h.2 with h0 | ⟨g, cap, cur, he, hbg, hg, hc⟩
  · exact .inl h0
  · refine .inr ⟨g, cap, cur, he, hbg, ?_, hc⟩
    have hgb : g ≠ b := by
      intro e1
      subst e1
      unfold Blk at hB
      rw [hB] at hg
      injection hg with hg
      injection hg with _ hg
      exact hne hg.symm
    exact (setRow_other W b g vs (fun e1 => hgb e1)).trans hg
theorem Rows3.far {W : World} {base b : Nat} {A : Option Addr} {m p : Nat} {B : Option Addr} {k q : Nat} {C : Option Addr} {n r : Nat} {o l f : List Int} (h : Rows3 base A m p B k q C n r o l f W) {cs : Array Value} (hB : Blk W b 32 cs) (vs : Array Value) : Rows3 base A m p B k q C n r o l f (W.setRow b vs) :=
  ⟨own_far h.a hB (by decide) vs, own_far h.b hB (by decide) vs, own_far h.c hB (by decide) vs, h.ab⟩

/-- What a slot is known to hold. -/
inductive CndA where
  | any
  | is (v : Value)
  | own (base : Nat) (l : List Int)
  | row3 (base : Nat) (sg st : Int) (m k n : Nat) (o l f : List Int)
def CndA.p : CndA → World → Value → Prop
  | .any => fun _ _ => True
  | .is v => fun _ u => u = v
  | .own base l => fun W u => ∃ A m p, u = .slice A m p ∧ W.ownsRow base 3 1 (.slice A m p) m (iv .i64 l)
  | .row3 base sg st m k n o l f => fun W u => ∃ A p B q C r, u = .agg #[.int .i64 sg, .int .i64 st, .slice A m p, .slice B k q, .slice C n r] ∧ Rows3 base A m p B k q C n r o l f W
theorem CndA.later (c : CndA) {W W' : World} {u : Value} (hb : Below W.heap.size W W') (h : c.p W u) : c.p W' u := by
  cases c with
  | any => exact trivial
  | is v => exact h
  | own => obtain ⟨A, m, p, e1, ho⟩ := h; exact ⟨A, m, p, e1, own_later ho hb⟩
  | row3 => obtain ⟨A, p, B, q, C, r, e1, ho⟩ := h; exact ⟨A, p, B, q, C, r, e1, ho.later hb⟩
theorem CndA.far (c : CndA) {W : World} {u : Value} {b : Nat} {cs : Array Value} (hB : Blk W b 32 cs) (vs : Array Value) (h : c.p W u) : c.p (W.setRow b vs) u := by
  cases c with
  | any => exact trivial
  | is v => exact h
  | own => obtain ⟨A, m, p, e1, ho⟩ := h; exact ⟨A, m, p, e1, own_far ho hB (by decide) vs⟩
  | row3 => obtain ⟨A, p, B, q, C, r, e1, ho⟩ := h; exact ⟨A, p, B, q, C, r, e1, ho.far hB vs⟩
theorem CndA.lift {cs : List CndA} {W W' : World} {j : Nat} {u : Value} (hc : ∀ c : CndA, c.p W u → c.p W' u) (h : Free.V (cs.map CndA.p) j W u) : Free.V (cs.map CndA.p) j W' u := by
  unfold Free.V at *
  cases hi : cs[j]? with
  | none => simp only [List.getD_eq_getElem?_getD, List.getElem?_map, hi]; exact trivial
  | some c =>
    simp only [List.getD_eq_getElem?_getD, List.getElem?_map, hi, Option.map_some, Option.getD_some] at h ⊢
    exact hc c h
theorem CndA.keep {cs : List CndA} {W W' : World} {j : Nat} {u : Value} (hb : Below W.heap.size W W') (h : Free.V (cs.map CndA.p) j W u) : Free.V (cs.map CndA.p) j W' u := CndA.lift (fun c => c.later hb) h
theorem slot_ownl {xs : Array Value} {i base : Nat} {l : List Int} {W : World} (h : ∃ A m p, xs.getD i undef = .slice A m p ∧ W.ownsRow base 3 1 (.slice A m p) m (iv .i64 l)) :
    ∃ A m p, xs[i]?.getD undef = .slice A m p ∧ W.ownsRow base 3 1 (.slice A m p) m (iv .i64 l) := by simpa using h

/-- A new block that gets a table with lists of its own, in whatever order: ia: the number of its alloc, ix: of the store; sa: its slot. -/
structure AwC (w : World) (bz base ia ix sa : Nat) (cs : Array Value) (sg st : Int) (m k n : Nat) (o l f : List Int) (listed : Array Bool) (a : Act) (W : World) : Prop where
  b : Below w.heap.size w W
  kb : Blk W w.heap.size 32 cs
  z : Blk W bz 32 (csT 0 0 none 0 0 none 0 0 none 0 0)
  s : base ≤ W.heap.size
  lt : bz < base
  lw : w.heap.size < bz
  ord : listed.getD ix false = true → listed.getD ia false = true
  blk : listed.getD ia false = true → ∃ b, a.tmps.getD sa undef = .pointer (some ⟨b, 0, none⟩) ∧ base ≤ b ∧ (listed.getD ix false = false → Blk W b 32 (csT 0 0 none 0 0 none 0 0 none 0 0)) ∧
    (listed.getD ix false = true → ∃ A p B q C r, Blk W b 32 (csT sg st A m p B k q C n r) ∧ Rows3 base A m p B k q C n r o l f W)
section
variable {w : World} {bz base ia ix sa m k n : Nat} {cs : Array Value} {sg st : Int} {o l f : List Int} {listed : Array Bool} {a : Act} {W W' : World}
theorem AwC.step (h : AwC w bz base ia ix sa cs sg st m k n o l f listed a W) (i d : Nat) (v : Value) (h1 : i ≠ ia) (h2 : i ≠ ix) (hd : d ≠ sa) (hb : Below W.heap.size W W') : AwC w bz base ia ix sa cs sg st m k n o l f (listed.setIfInBounds i true) (a.put (some d) v) W' := by
  have e1 : (listed.setIfInBounds i true).getD ia false = listed.getD ia false := getD_set_ne false h1
  have e2 : (listed.setIfInBounds i true).getD ix false = listed.getD ix false := getD_set_ne false h2
  refine ⟨Ge.trans h.b hb, h.kb.later hb, h.z.later hb, Nat.le_trans h.s hb.size, h.lt, h.lw, by rw [e1, e2]; exact h.ord, ?_⟩
  rw [e1, e2]
  intro hl
  obtain ⟨b, q1, q2, q3, q4⟩ := h.blk hl
  refine ⟨b, (Free.slot_ne v hd).trans q1, q2, fun e => (q3 e).later hb, fun e => ?_⟩
  obtain ⟨A, p, B, q, C, r, k1, k2⟩ := q4 e
  exact ⟨A, p, B, q, C, r, k1.later hb, k2.later hb⟩
theorem not_listed {i : Nat} (hi : i < listed.size) (h : listed.getD i true = false) : listed.getD i false = false := by
  simp only [Array.getD_eq_getD_getElem?] at h ⊢
  have : listed[i]? = some (listed[i]'hi) := Array.getElem?_eq_getElem hi
  rw [this] at h ⊢
  exact h
theorem AwC.alloc (h : AwC w bz base ia ix sa cs sg st m k n o l f listed a W) (hi : ia < listed.size) (hne : ia ≠ ix) (ha : sa < a.tmps.size) (hno : listed.getD ia true = false) :
    AwC w bz base ia ix sa cs sg st m k n o l f (listed.setIfInBounds ia true) (a.put (some sa) (.pointer (some ⟨W.heap.size, 0, none⟩))) (W.alloc (.cells (csT 0 0 none 0 0 none 0 0 none 0 0) 32)) := by
  have e2 : (listed.setIfInBounds ia true).getD ix false = listed.getD ix false := getD_set_ne false hne
  have e1 : (listed.setIfInBounds ia true).getD ia false = true := by simp [hi]
  have f1 := not_listed hi hno
  have hb := below1 W (.cells (csT 0 0 none 0 0 none 0 0 none 0 0) 32)
  refine ⟨Ge.trans h.b hb, h.kb.later hb, h.z.later hb, Nat.le_trans h.s hb.size, h.lt, h.lw, fun _ => e1, fun _ => ⟨W.heap.size, ?_, h.s, fun _ => Blk.new _ _ _, fun e => ?_⟩⟩
  · unfold Act.put
    simp [ha]
  · rw [e2] at e
    have := h.ord e
    rw [f1] at this
    exact absurd this (by decide)
theorem AwC.store (h : AwC w bz base ia ix sa cs sg st m k n o l f listed a W) (hi : ix < listed.size) (hne : ia ≠ ix) {b : Nat} (hl : listed.getD ia false = true) (hs : a.tmps.getD sa undef = .pointer (some ⟨b, 0, none⟩)) {A : Option Addr} {p : Nat} {B : Option Addr} {q : Nat} {C : Option Addr} {r : Nat}
    (hB : Blk W b 32 (csT 0 0 none 0 0 none 0 0 none 0 0)) (hbb : base ≤ b) (R : Rows3 base A m p B k q C n r o l f W) :
    AwC w bz base ia ix sa cs sg st m k n o l f (listed.setIfInBounds ix true) (a.put none undef) (W.setRow b (csT sg st A m p B k q C n r)) := by
  have e1 : (listed.setIfInBounds ix true).getD ia false = listed.getD ia false := getD_set_ne false (fun e => hne e.symm)
  have e2 : (listed.setIfInBounds ix true).getD ix false = true := by simp [hi]
  have h1 := h.lt
  have h2 := h.lw
  refine ⟨below_row h.b (by omega) _, h.kb.far (by omega) _, h.z.far (by omega) _, by rw [row_size]; exact h.s, h.lt, h.lw, fun _ => by rw [e1]; exact hl, fun _ => ⟨b, hs, hbb, fun e => ?_, fun _ => ⟨A, p, B, q, C, r, hB.row _, R.far hB _⟩⟩⟩
  rw [e2] at e
  exact absurd e (by decide)
end
end Go.Proofs.Ytpgbbbgblgkokaa
