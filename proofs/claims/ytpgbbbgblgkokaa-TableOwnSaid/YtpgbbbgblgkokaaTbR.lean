/- The document's own: a table whose lists are copies: the regions' orders by FreeC; no memory that was there is changed. -/
import Derived.Test.YtpgbbbgblgkokaaTbG
import Derived.Test.YtpgbbbgblgkokaaTbJ
import Derived.Test.YtpgbbbgblgkokaaTbW
import Derived.Test.YtpgbbbgblgkokaaFreeC
namespace Go.Proofs.Ytpgbbbgblgkokaa
open Go.RowKit Go.Lib
set_option linter.unusedVariables false

/-- Numbers behind an empty row: a new row. -/
theorem from_empty {κ : IntKind} {e T : TypeId} {z : Value} (hT : Try.prog.underlying T = some (.slice e)) (hI : (Try.prog.info? e).map (fun i => (i.zero, i.size, i.bytes)) = some (some z, 1, 8)) (hz : z.cells.size = 1)
    {W : World} {A : Option Addr} {m p : Nat} {l : List Int} (h : Sl κ W A m l) (h0 : 0 < m) (hm : m ≤ 1000) (g0 : Nat) {base : Nat} (hb : base ≤ W.heap.size) :
    ∃ p' W5, (∀ ty, (Builtin.append_ #[T, T] ty #[.slice (some ⟨g0, 0, none⟩) 0 0, .slice A m p]).run Try.prog W = .ok (.slice (some ⟨W.heap.size, 0, none⟩) m p') W5) ∧
      W5.ownsRow base e 1 (.slice (some ⟨W.heap.size, 0, none⟩) m p') m (iv κ l) ∧ Below W.heap.size W W5 ∧ W.heap.size < W5.heap.size := by
  obtain ⟨i0, hi0, hz0, hz1, hz2⟩ := info_of hI
  obtain ⟨b, off, rfl, _, _⟩ := h.cells h0
  have hlen : m = l.length := h.len
  have hr := fun ty => run_append_grow (P := Try.prog) W T ty e i0 z hT hi0 hz0 ⟨g0, 0, none⟩ 0 0 [] (by simp) (by simp) ⟨b, off, none⟩ m p (iv κ l) (by rw [iv_len, hlen, hz1, Nat.mul_one]) (sl_cells h) (by omega) (by omega) (growslice_fits (by omega) (by rw [hz2]; omega))
  simp only [Nat.zero_add] at hr
  have hge := grownCap_ge W m 0 e
  have hcm : grownCap W m 0 e ≤ maxLen := grownCap_le_maxLen W m 0 e (by unfold maxLen; omega)
  refine ⟨grownCap W m 0 e, _, hr, ⟨by rw [iv_len, hlen, Nat.mul_one], .inr ⟨W.heap.size, _, _, rfl, hb, heap_alloc_new W.drew _, hge, hcm, ?_, ?_⟩⟩, ((Below.refl W.heap.size W).drew).alloc (Nat.le_refl _) _, by simp⟩
  · simp only [Array.size_append, List.size_toArray, size_zeroCells, hz, iv_len, List.length_nil]
    omega
  · simp only [Array.toList_append, List.append_assoc]
    simp [iv_len, hlen]

/-- What a slot is known to hold. -/
inductive CndO where
  | is (v : Value)
  | emp
  | own (κ : IntKind) (e : TypeId) (base m : Nat) (l : List Int)
  | row3 (base : Nat) (sg st : Int) (m k n : Nat) (o l f : List Int)
  | put (base bz : Nat) (T : TypeId) (sg st : Int) (m k n : Nat) (o l f : List Int)
def CndO.p : CndO → World → Value → Prop
  | .is v => fun _ u => u = v
  | .emp => fun _ u => ∃ g, u = .slice (some ⟨g, 0, none⟩) 0 0
  | .own κ e base m l => fun W u => ∃ g p, u = .slice (some ⟨g, 0, none⟩) m p ∧ W.ownsRow base e 1 (.slice (some ⟨g, 0, none⟩) m p) m (iv κ l)
  | .row3 base sg st m k n o l f => fun W u => ∃ A p B q C r, u = .agg #[.int .i64 sg, .int .i64 st, .slice A m p, .slice B k q, .slice C n r] ∧ Rows3 base A m p B k q C n r o l f W
  | .put base bz T sg st m k n o l f => fun W _ => ∃ A p B q C r, Blk W bz T (csT sg st A m p B k q C n r) ∧ Rows3 base A m p B k q C n r o l f W
theorem CndO.later (c : CndO) {W W' : World} {u : Value} (hb : Below W.heap.size W W') (h : c.p W u) : c.p W' u := by
  cases c with
  | is v => exact h
  | emp => exact h
  | own κ e base m l => obtain ⟨g, p, e1, ho⟩ := h; exact ⟨g, p, e1, own_later ho hb⟩
  | row3 => obtain ⟨A, p, B, q, C, r, e1, ho⟩ := h; exact ⟨A, p, B, q, C, r, e1, ho.later hb⟩
  | put => obtain ⟨A, p, B, q, C, r, e1, ho⟩ := h; exact ⟨A, p, B, q, C, r, e1.later hb, ho.later hb⟩
theorem CndO.keep {cs : List CndO} {W W' : World} {j : Nat} {u : Value} (hb : Below W.heap.size W W') (h : Free.V (cs.map CndO.p) j W u) : Free.V (cs.map CndO.p) j W' u := by
  unfold Free.V at *
  cases hi : cs[j]? with
  | none => simp only [List.getD_eq_getElem?_getD, List.getElem?_map, hi]; exact trivial
  | some c =>
    simp only [List.getD_eq_getElem?_getD, List.getElem?_map, hi, Option.map_some, Option.getD_some] at h ⊢
    exact c.later hb h
theorem slot_emp {xs : Array Value} {n : Nat} (h : ∃ g, xs.getD n undef = .slice (some ⟨g, 0, none⟩) 0 0) : ∃ g, xs[n]?.getD undef = .slice (some ⟨g, 0, none⟩) 0 0 := by simpa using h
theorem slot_own {xs : Array Value} {i base m : Nat} {κ : IntKind} {e : TypeId} {l : List Int} {W : World} (h : ∃ g p, xs.getD i undef = .slice (some ⟨g, 0, none⟩) m p ∧ W.ownsRow base e 1 (.slice (some ⟨g, 0, none⟩) m p) m (iv κ l)) :
    ∃ g p, xs[i]?.getD undef = .slice (some ⟨g, 0, none⟩) m p ∧ W.ownsRow base e 1 (.slice (some ⟨g, 0, none⟩) m p) m (iv κ l) := by simpa using h
theorem slot_row3 {xs : Array Value} {i base m k n : Nat} {sg st : Int} {o l f : List Int} {W : World} (h : ∃ A p B q C r, xs.getD i undef = .agg #[.int .i64 sg, .int .i64 st, .slice A m p, .slice B k q, .slice C n r] ∧ Rows3 base A m p B k q C n r o l f W) :
    ∃ A p B q C r, xs[i]?.getD undef = .agg #[.int .i64 sg, .int .i64 st, .slice A m p, .slice B k q, .slice C n r] ∧ Rows3 base A m p B k q C n r o l f W := by simpa using h

theorem getD_no {listed : Array Bool} (h : listed.size = 18) (hno : listed.getD 17 true = false) : listed.getD 17 false = false := by
  simp only [Array.getD_eq_getD_getElem?] at hno ⊢
  have : listed[17]? = some (listed[17]'(by omega)) := Array.getElem?_eq_getElem (by omega)
  rw [this] at hno ⊢
  exact hno
/-- While the lists are copied, in whatever order. -/
structure OwC (w : World) (b1 bz base : Nat) (T : TypeId) (cs : Array Value) (m k : Nat) (listed : Array Bool) (a : Act) (W : World) : Prop where
  b : Below w.heap.size w W
  kb : Blk W b1 T cs
  z : listed.getD 17 false = false → Blk W bz T (csT 0 0 none 0 0 none 0 0 none 0 0)
  s : base ≤ W.heap.size
  lt : bz < base
  ne : b1 ≠ bz
  lw : w.heap.size ≤ bz
  d : listed.getD 7 false = true → listed.getD 11 false = true → ∀ g h p q, a.tmps.getD 10 undef = .slice (some ⟨g, 0, none⟩) m p → a.tmps.getD 14 undef = .slice (some ⟨h, 0, none⟩) k q → g ≠ h
section
variable {w : World} {b1 bz base m k : Nat} {T : TypeId} {cs : Array Value} {listed : Array Bool} {a : Act} {W W' : World}
theorem OwC.step (h : OwC w b1 bz base T cs m k listed a W) (i d : Nat) (v : Value) (h7 : i ≠ 7) (h11 : i ≠ 11) (h17 : i ≠ 17) (hd : d ≠ 10) (hd' : d ≠ 14) (hb : Below W.heap.size W W') : OwC w b1 bz base T cs m k (listed.setIfInBounds i true) (a.put (some d) v) W' := by
  refine ⟨Ge.trans h.b hb, h.kb.later hb, ?_, Nat.le_trans h.s hb.size, h.lt, h.ne, h.lw, ?_⟩
  · rw [getD_set_ne false h17]; exact fun e => (h.z e).later hb
  · rw [getD_set_ne false h7, getD_set_ne false h11]
    intro l7 l11 g g' p q e1 e2
    exact h.d l7 l11 g g' p q ((Free.slot_ne v hd).symm.trans e1) ((Free.slot_ne v hd').symm.trans e2)
theorem OwC.app7 (h : OwC w b1 bz base T cs m k listed a W) (hsz : 14 < a.tmps.size) {o : List Int} {e : TypeId} (hl : listed.getD 11 false = true → ∃ g p, a.tmps.getD 14 undef = .slice (some ⟨g, 0, none⟩) k p ∧ W.ownsRow base e 1 (.slice (some ⟨g, 0, none⟩) k p) k (iv .i64 o)) (p' : Nat) (hb : Below W.heap.size W W') :
    OwC w b1 bz base T cs m k (listed.setIfInBounds 7 true) (a.put (some 10) (.slice (some ⟨W.heap.size, 0, none⟩) m p')) W' := by
  refine ⟨Ge.trans h.b hb, h.kb.later hb, ?_, Nat.le_trans h.s hb.size, h.lt, h.ne, h.lw, ?_⟩
  · rw [getD_set_ne false (by omega)]; exact fun e => (h.z e).later hb
  · rw [getD_set_ne false (show 7 ≠ 11 by omega)]
    intro _ l11 g g' p q e1 e2
    obtain ⟨g2, p2, e3, ho⟩ := hl l11
    have e4 : (a.put (some 10) (.slice (some ⟨W.heap.size, 0, none⟩) m p')).tmps.getD 14 undef = a.tmps.getD 14 undef := Free.slot_ne _ (by omega)
    have e5 := e3.symm.trans (e4.symm.trans e2)
    injection e5 with e5
    injection e5 with e5
    injection e5 with e5
    have e6 : (a.put (some 10) (.slice (some ⟨W.heap.size, 0, none⟩) m p')).tmps.getD 10 undef = .slice (some ⟨W.heap.size, 0, none⟩) m p' := by
      unfold Act.put
      simp [show 10 < a.tmps.size by omega]
    have e7 := e6.symm.trans e1
    injection e7 with e7
    injection e7 with e7
    injection e7 with e7
    have := (ho.lt g2 rfl).2
    omega
theorem OwC.app11 (h : OwC w b1 bz base T cs m k listed a W) (hsz : 14 < a.tmps.size) {o : List Int} {e : TypeId} (hl : listed.getD 7 false = true → ∃ g p, a.tmps.getD 10 undef = .slice (some ⟨g, 0, none⟩) m p ∧ W.ownsRow base e 1 (.slice (some ⟨g, 0, none⟩) m p) m (iv .i64 o)) (p' : Nat) (hb : Below W.heap.size W W') :
    OwC w b1 bz base T cs m k (listed.setIfInBounds 11 true) (a.put (some 14) (.slice (some ⟨W.heap.size, 0, none⟩) k p')) W' := by
  refine ⟨Ge.trans h.b hb, h.kb.later hb, ?_, Nat.le_trans h.s hb.size, h.lt, h.ne, h.lw, ?_⟩
  · rw [getD_set_ne false (by omega)]; exact fun e => (h.z e).later hb
  · rw [getD_set_ne false (show 11 ≠ 7 by omega)]
    intro l7 _ g g' p q e1 e2
    obtain ⟨g2, p2, e3, ho⟩ := hl l7
    have e4 : (a.put (some 14) (.slice (some ⟨W.heap.size, 0, none⟩) k p')).tmps.getD 10 undef = a.tmps.getD 10 undef := Free.slot_ne _ (by omega)
    have e5 := e3.symm.trans (e4.symm.trans e1)
    injection e5 with e5
    injection e5 with e5
    injection e5 with e5
    have e6 : (a.put (some 14) (.slice (some ⟨W.heap.size, 0, none⟩) k p')).tmps.getD 14 undef = .slice (some ⟨W.heap.size, 0, none⟩) k p' := by
      unfold Act.put
      simp [hsz]
    have e7 := e6.symm.trans e2
    injection e7 with e7
    injection e7 with e7
    injection e7 with e7
    have := (ho.lt g2 rfl).2
    omega
theorem OwC.store (h : OwC w b1 bz base T cs m k listed a W) (hsz : listed.size = 18) (vs : Array Value) : OwC w b1 bz base T cs m k (listed.setIfInBounds 17 true) (a.put none undef) (W.setRow bz vs) := by
  refine ⟨below_row h.b h.lw _, h.kb.far h.ne.symm _, ?_, by rw [row_size]; exact h.s, h.lt, h.ne, h.lw, ?_⟩
  · intro e; simp [hsz] at e
  · rw [getD_set_ne false (show 17 ≠ 7 by omega), getD_set_ne false (show 17 ≠ 11 by omega)]
    exact h.d
end
def vlO (b1 bz base : Nat) (sg st : Int) (A : Option Addr) (m p : Nat) (B : Option Addr) (k q : Nat) (C : Option Addr) (n r : Nat) (o l f : List Int) : List CndO := [.is (.pointer (some ⟨b1, 0, none⟩)), .is (.int .i64 sg), .is (.pointer (some ⟨b1, 1, none⟩)), .is (.int .i64 st), .emp, .is (.pointer (some ⟨b1, 2, none⟩)), .is (.slice A m p), .own .i64 3 base m o, .emp, .is (.pointer (some ⟨b1, 3, none⟩)), .is (.slice B k q), .own .i64 3 base k l, .emp, .is (.pointer (some ⟨b1, 4, none⟩)), .is (.slice C n r), .own .u64 23 base n f, .row3 base sg st m k n o l f, .put base bz 32 sg st m k n o l f]
theorem CndO.keep_row {b1 bz base : Nat} {sg st : Int} {A : Option Addr} {m p : Nat} {B : Option Addr} {k q : Nat} {C : Option Addr} {n r : Nat} {o l f : List Int} {W : World} {j : Nat} {u : Value} {cs : Array Value} (hb : bz < base) (hj : j ≠ 17) (h : Free.V ((vlO b1 bz base sg st A m p B k q C n r o l f).map CndO.p) j W u) : Free.V ((vlO b1 bz base sg st A m p B k q C n r o l f).map CndO.p) j (W.setRow bz cs) u := by
  rcases (by omega : j ≤ 16 ∨ 18 ≤ j) with hj | hj
  · match j, hj, h with
    | 0, _, h => exact h
    | 1, _, h => exact h
    | 2, _, h => exact h
    | 3, _, h => exact h
    | 4, _, h => exact h
    | 5, _, h => exact h
    | 6, _, h => exact h
    | 7, _, h => obtain ⟨g, p, e1, ho⟩ := h; exact ⟨g, p, e1, own_row ho hb⟩
    | 8, _, h => exact h
    | 9, _, h => exact h
    | 10, _, h => exact h
    | 11, _, h => obtain ⟨g, p, e1, ho⟩ := h; exact ⟨g, p, e1, own_row ho hb⟩
    | 12, _, h => exact h
    | 13, _, h => exact h
    | 14, _, h => exact h
    | 15, _, h => obtain ⟨g, p, e1, ho⟩ := h; exact ⟨g, p, e1, own_row ho hb⟩
    | 16, _, h => obtain ⟨A, p, B, q, C, r, e1, ho⟩ := h; exact ⟨A, p, B, q, C, r, e1, ho.row hb⟩
    | j + 17, hj, _ => exact absurd hj (by omega)
  · unfold Free.V
    simp only [List.getD_eq_getElem?_getD]
    rw [List.getElem?_eq_none (by simpa [vlO] using hj)]
    exact trivial

set_option maxRecDepth 100000 in
set_option maxHeartbeats 8000000 in
theorem rown_any (sg st : Int) (A : Option Addr) (m p : Nat) (B : Option Addr) (k q : Nat) (C : Option Addr) (n r : Nat) (o l f : List Int) (w : World) (h : TIn w A m B k C n o l f) (h1 : 1 ≤ m ∧ m ≤ 1000) (h2 : 1 ≤ k ∧ k ≤ 1000) (h3 : 1 ≤ n ∧ n ≤ 1000) :
    Calls Try.prog 51 #[.agg #[.int .i64 sg, .int .i64 st, .slice A m p, .slice B k q, .slice C n r]] w (fun en w' => ∃ A1 p1 B1 q1 C1 r1, en = .returned (.agg #[.int .i64 sg, .int .i64 st, .slice A1 m p1, .slice B1 k q1, .slice C1 n r1]) ∧ Rows3 w.heap.size A1 m p1 B1 k q1 C1 n r1 o l f w' ∧ Below w.heap.size w w') := by
  have hsa := h.a
  have hsb := h.b
  have hsc := h.c
  have B0 : Below w.heap.size w ((w.alloc (.cells #[.int .i64 sg, .int .i64 st, .slice A m p, .slice B k q, .slice C n r] 32)).alloc (.cells #[.int .i64 0, .int .i64 0, .slice none 0 0, .slice none 0 0, .slice none 0 0] 32)) := Ge.trans (below1 _ _) (below1 _ _)
  have K0 : Blk ((w.alloc (.cells #[.int .i64 sg, .int .i64 st, .slice A m p, .slice B k q, .slice C n r] 32)).alloc (.cells #[.int .i64 0, .int .i64 0, .slice none 0 0, .slice none 0 0, .slice none 0 0] 32)) w.heap.size 32 (csT sg st A m p B k q C n r) := (Blk.new w _ _).later (below1 _ _)
  have Z0 : Blk ((w.alloc (.cells #[.int .i64 sg, .int .i64 st, .slice A m p, .slice B k q, .slice C n r] 32)).alloc (.cells #[.int .i64 0, .int .i64 0, .slice none 0 0, .slice none 0 0, .slice none 0 0] 32)) (w.heap.size + 1) 32 (csT 0 0 none 0 0 none 0 0 none 0 0) := Blk.at_ _ _ _ (by simp)
  have hv := Try.zeroValue32
  have S0 : w.heap.size + 2 ≤ ((w.alloc (.cells #[.int .i64 sg, .int .i64 st, .slice A m p, .slice B k q, .slice C n r] 32)).alloc (.cells #[.int .i64 0, .int .i64 0, .slice none 0 0, .slice none 0 0, .slice none 0 0] 32)).heap.size := by simp
  go_enter Try.func51, Try.ntmps51
  go_wp2_with fail
  refine FreeC.wp_freeC ((vlO w.heap.size (w.heap.size + 1) (w.heap.size + 2) sg st A m p B k q C n r o l f).map CndO.p) (OwC w w.heap.size (w.heap.size + 1) (w.heap.size + 2) 32 (csT sg st A m p B k q C n r) m k) (by kernel_rfl) (by kernel_rfl) ⟨Ge.trans B0 (below_drawn _), K0.later (below_drawn _), fun _ => Z0.later (below_drawn _), S0, by omega, by omega, by omega, fun e => by simp at e⟩ ?_ ?_
  · clear K0 Z0 B0 S0
    refine ⟨?_, ?_, ?_, ?_, ?_, ?_, ?_, ?_, ?_, ?_, ?_, ?_, ?_, ?_, ?_, ?_, ?_, ?_, trivial⟩
    · intro listed A0 W hA hno hr K hK
      have e1 : A0.tmps[1]?.getD undef = .pointer (some ⟨w.heap.size, 0, none⟩) := slot_is ((hA.kept 1 (Free.not_dst (by kernel_rfl))).trans rfl)
      simp [go_sem, e1]
      exact hK _ _ (hA.c.step 0 3 _ (by omega) (by omega) (by omega) (by omega) (by omega) (Below.refl _ _)) rfl (fun j u _ _ hu => CndO.keep (Below.refl _ _) hu)
    · intro listed A0 W hA hno hr K hK
      have e3 : A0.tmps[3]?.getD undef = .pointer (some ⟨w.heap.size, 0, none⟩) := slot_is (hA.val 0 _ rfl (hr ⟨0, .data⟩ (by simp) rfl))
      have c0 : W.cell? ⟨w.heap.size, 0, none⟩ = some (.int .i64 sg) := hA.c.kb.cell 0
      simp [go_sem, e3, c0]
      exact hK _ _ (hA.c.step 1 4 _ (by omega) (by omega) (by omega) (by omega) (by omega) (Below.refl _ _)) rfl (fun j u _ _ hu => CndO.keep (Below.refl _ _) hu)
    · intro listed A0 W hA hno hr K hK
      have e1 : A0.tmps[1]?.getD undef = .pointer (some ⟨w.heap.size, 0, none⟩) := slot_is ((hA.kept 1 (Free.not_dst (by kernel_rfl))).trans rfl)
      simp [go_sem, e1]
      exact hK _ _ (hA.c.step 2 5 _ (by omega) (by omega) (by omega) (by omega) (by omega) (Below.refl _ _)) rfl (fun j u _ _ hu => CndO.keep (Below.refl _ _) hu)
    · intro listed A0 W hA hno hr K hK
      have e5 : A0.tmps[5]?.getD undef = .pointer (some ⟨w.heap.size, 1, none⟩) := slot_is (hA.val 2 _ rfl (hr ⟨2, .data⟩ (by simp) rfl))
      have c0 : W.cell? ⟨w.heap.size, 1, none⟩ = some (.int .i64 st) := hA.c.kb.cell 1
      simp [go_sem, e5, c0]
      exact hK _ _ (hA.c.step 3 6 _ (by omega) (by omega) (by omega) (by omega) (by omega) (Below.refl _ _)) rfl (fun j u _ _ hu => CndO.keep (Below.refl _ _) hu)
    · intro listed A0 W hA hno hr K hK
      simp [go_sem]
      exact hK _ _ (hA.c.step 4 7 _ (by omega) (by omega) (by omega) (by omega) (by omega) (below1 _ _)) ⟨_, rfl⟩ (fun j u _ _ hu => CndO.keep (below1 _ _) hu)
    · intro listed A0 W hA hno hr K hK
      have e1 : A0.tmps[1]?.getD undef = .pointer (some ⟨w.heap.size, 0, none⟩) := slot_is ((hA.kept 1 (Free.not_dst (by kernel_rfl))).trans rfl)
      simp [go_sem, e1]
      exact hK _ _ (hA.c.step 5 8 _ (by omega) (by omega) (by omega) (by omega) (by omega) (Below.refl _ _)) rfl (fun j u _ _ hu => CndO.keep (Below.refl _ _) hu)
    · intro listed A0 W hA hno hr K hK
      have e8 : A0.tmps[8]?.getD undef = .pointer (some ⟨w.heap.size, 2, none⟩) := slot_is (hA.val 5 _ rfl (hr ⟨5, .data⟩ (by simp) rfl))
      have c0 : W.cell? ⟨w.heap.size, 2, none⟩ = some (.slice A m p) := hA.c.kb.cell 2
      simp [go_sem, e8, c0]
      exact hK _ _ (hA.c.step 6 9 _ (by omega) (by omega) (by omega) (by omega) (by omega) (Below.refl _ _)) rfl (fun j u _ _ hu => CndO.keep (Below.refl _ _) hu)
    · intro listed A0 W hA hno hr K hK
      obtain ⟨g0, e7⟩ : ∃ g0, A0.tmps[7]?.getD undef = .slice (some ⟨g0, 0, none⟩) 0 0 := slot_emp (hA.val 4 _ rfl (hr ⟨4, .data⟩ (by simp) rfl))
      have e9 : A0.tmps[9]?.getD undef = .slice A m p := slot_is (hA.val 6 _ rfl (hr ⟨6, .data⟩ (by simp) rfl))
      obtain ⟨p', W5, R, own5, hb, hsz⟩ := from_empty (T := 25) Try.underlying25 infoI rfl (hsa.later hA.c.b) (p := p) (by omega) (by omega) g0 hA.c.s
      unfold Oper.wp
      simp only [execOp, resolve, invoke, builtin, Sem.run_bind, Sem.run_pure, Result.andThen_ok, List.map_toArray, List.map_cons, List.map_nil, Act.eval, Array.getD_eq_getD_getElem?, e7, e9, R]
      exact hK _ _ (hA.c.app7 (by have := hA.slots; simp at this; omega) (fun hl => hA.val 11 _ rfl hl) _ hb) ⟨_, p', rfl, own5⟩ (fun j u _ _ hu => CndO.keep hb hu)
    · intro listed A0 W hA hno hr K hK
      simp [go_sem]
      exact hK _ _ (hA.c.step 8 11 _ (by omega) (by omega) (by omega) (by omega) (by omega) (below1 _ _)) ⟨_, rfl⟩ (fun j u _ _ hu => CndO.keep (below1 _ _) hu)
    · intro listed A0 W hA hno hr K hK
      have e1 : A0.tmps[1]?.getD undef = .pointer (some ⟨w.heap.size, 0, none⟩) := slot_is ((hA.kept 1 (Free.not_dst (by kernel_rfl))).trans rfl)
      simp [go_sem, e1]
      exact hK _ _ (hA.c.step 9 12 _ (by omega) (by omega) (by omega) (by omega) (by omega) (Below.refl _ _)) rfl (fun j u _ _ hu => CndO.keep (Below.refl _ _) hu)
    · intro listed A0 W hA hno hr K hK
      have e12 : A0.tmps[12]?.getD undef = .pointer (some ⟨w.heap.size, 3, none⟩) := slot_is (hA.val 9 _ rfl (hr ⟨9, .data⟩ (by simp) rfl))
      have c0 : W.cell? ⟨w.heap.size, 3, none⟩ = some (.slice B k q) := hA.c.kb.cell 3
      simp [go_sem, e12, c0]
      exact hK _ _ (hA.c.step 10 13 _ (by omega) (by omega) (by omega) (by omega) (by omega) (Below.refl _ _)) rfl (fun j u _ _ hu => CndO.keep (Below.refl _ _) hu)
    · intro listed A0 W hA hno hr K hK
      obtain ⟨g0, e11⟩ : ∃ g0, A0.tmps[11]?.getD undef = .slice (some ⟨g0, 0, none⟩) 0 0 := slot_emp (hA.val 8 _ rfl (hr ⟨8, .data⟩ (by simp) rfl))
      have e13 : A0.tmps[13]?.getD undef = .slice B k q := slot_is (hA.val 10 _ rfl (hr ⟨10, .data⟩ (by simp) rfl))
      obtain ⟨p', W5, R, own5, hb, hsz⟩ := from_empty (T := 25) Try.underlying25 infoI rfl (hsb.later hA.c.b) (p := q) (by omega) (by omega) g0 hA.c.s
      unfold Oper.wp
      simp only [execOp, resolve, invoke, builtin, Sem.run_bind, Sem.run_pure, Result.andThen_ok, List.map_toArray, List.map_cons, List.map_nil, Act.eval, Array.getD_eq_getD_getElem?, e11, e13, R]
      exact hK _ _ (hA.c.app11 (by have := hA.slots; simp at this; omega) (fun hl => hA.val 7 _ rfl hl) _ hb) ⟨_, p', rfl, own5⟩ (fun j u _ _ hu => CndO.keep hb hu)
    · intro listed A0 W hA hno hr K hK
      simp [go_sem]
      exact hK _ _ (hA.c.step 12 15 _ (by omega) (by omega) (by omega) (by omega) (by omega) (below1 _ _)) ⟨_, rfl⟩ (fun j u _ _ hu => CndO.keep (below1 _ _) hu)
    · intro listed A0 W hA hno hr K hK
      have e1 : A0.tmps[1]?.getD undef = .pointer (some ⟨w.heap.size, 0, none⟩) := slot_is ((hA.kept 1 (Free.not_dst (by kernel_rfl))).trans rfl)
      simp [go_sem, e1]
      exact hK _ _ (hA.c.step 13 16 _ (by omega) (by omega) (by omega) (by omega) (by omega) (Below.refl _ _)) rfl (fun j u _ _ hu => CndO.keep (Below.refl _ _) hu)
    · intro listed A0 W hA hno hr K hK
      have e16 : A0.tmps[16]?.getD undef = .pointer (some ⟨w.heap.size, 4, none⟩) := slot_is (hA.val 13 _ rfl (hr ⟨13, .data⟩ (by simp) rfl))
      have c0 : W.cell? ⟨w.heap.size, 4, none⟩ = some (.slice C n r) := hA.c.kb.cell 4
      simp [go_sem, e16, c0]
      exact hK _ _ (hA.c.step 14 17 _ (by omega) (by omega) (by omega) (by omega) (by omega) (Below.refl _ _)) rfl (fun j u _ _ hu => CndO.keep (Below.refl _ _) hu)
    · intro listed A0 W hA hno hr K hK
      obtain ⟨g0, e15⟩ : ∃ g0, A0.tmps[15]?.getD undef = .slice (some ⟨g0, 0, none⟩) 0 0 := slot_emp (hA.val 12 _ rfl (hr ⟨12, .data⟩ (by simp) rfl))
      have e17 : A0.tmps[17]?.getD undef = .slice C n r := slot_is (hA.val 14 _ rfl (hr ⟨14, .data⟩ (by simp) rfl))
      obtain ⟨p', W5, R, own5, hb, hsz⟩ := from_empty (T := 26) Try.underlying26 infoU rfl (hsc.later hA.c.b) (p := r) (by omega) (by omega) g0 hA.c.s
      unfold Oper.wp
      simp only [execOp, resolve, invoke, builtin, Sem.run_bind, Sem.run_pure, Result.andThen_ok, List.map_toArray, List.map_cons, List.map_nil, Act.eval, Array.getD_eq_getD_getElem?, e15, e17, R]
      exact hK _ _ (hA.c.step 15 18 _ (by omega) (by omega) (by omega) (by omega) (by omega) hb) ⟨_, p', rfl, own5⟩ (fun j u _ _ hu => CndO.keep hb hu)
    · intro listed A0 W hA hno hr K hK
      have e4 : A0.tmps[4]?.getD undef = .int .i64 sg := slot_is (hA.val 1 _ rfl (hr ⟨1, .data⟩ (by simp) rfl))
      have e6 : A0.tmps[6]?.getD undef = .int .i64 st := slot_is (hA.val 3 _ rfl (hr ⟨3, .data⟩ (by simp) rfl))
      obtain ⟨g7, p7, e10, o7⟩ := slot_own (hA.val 7 _ rfl (hr ⟨7, .data⟩ (by simp) rfl))
      obtain ⟨g11, p11, e14, o11⟩ := slot_own (hA.val 11 _ rfl (hr ⟨11, .data⟩ (by simp) rfl))
      obtain ⟨g15, p15, e18, o15⟩ := slot_own (hA.val 15 _ rfl (hr ⟨15, .data⟩ (by simp) rfl))
      have hd := hA.c.d (hr ⟨7, .data⟩ (by simp) rfl) (hr ⟨11, .data⟩ (by simp) rfl) g7 g11 p7 p11 (by simpa using e10) (by simpa using e14)
      simp [go_sem, e4, e6, e10, e14, e18]
      exact hK _ _ (hA.c.step 16 19 _ (by omega) (by omega) (by omega) (by omega) (by omega) (Below.refl _ _)) ⟨_, _, _, _, _, _, rfl, o7, o11, o15, fun g h1 h2 => by injection h1 with h1; injection h2 with h2; exact hd (h1.trans h2.symm)⟩ (fun j u _ _ hu => CndO.keep (Below.refl _ _) hu)
    · intro listed A0 W hA hno hr K hK
      have e2 : A0.tmps[2]?.getD undef = .pointer (some ⟨(w.heap.size + 1), 0, none⟩) := slot_is ((hA.kept 2 (Free.not_dst (by kernel_rfl))).trans rfl)
      obtain ⟨A1, p1, B1, q1, C1, r1, e19, R3⟩ := slot_row3 (hA.val 16 _ rfl (hr ⟨16, .data⟩ (by simp) rfl))
      have hz := hA.c.z (getD_no (by have := hA.size; simpa using this) hno)
      refine wp_store_row _ (.tmp 2) (.tmp 19) rfl (w.heap.size + 1) (csT sg st A1 m p1 B1 k q1 C1 n r1) (by simpa [Act.eval] using e2) (by simpa [Act.eval, csT] using e19) _ _ hz info_r rfl (csT_one _ _ _ _ _ _ _ _ _ _ _) ?_
      exact hK _ _ (hA.c.store (by have := hA.size; simpa using this) _) ⟨A1, p1, B1, q1, C1, r1, hz.row _, R3.row hA.c.lt⟩ (fun j u hj _ hu => CndO.keep_row hA.c.lt hj hu)
  · intro A0 W hA
    obtain ⟨A1, p1, B1, q1, C1, r1, K5, R3⟩ := hA.val 17 _ rfl rfl
    have e2 : A0.tmps.getD 2 undef = .pointer (some ⟨w.heap.size + 1, 0, none⟩) := (hA.kept 2 (Free.not_dst (by kernel_rfl))).trans rfl
    have hb := hA.c.b
    have hde := hA.defers
    clear hA
    obtain ⟨tm, de⟩ := A0
    simp only at e2 hde
    subst hde
    go_wp2_with fail
    exact bodyPost_ret (res_r1 rfl tm W (w.heap.size + 1) e2 K5) rfl ⟨A1, p1, B1, q1, C1, r1, rfl, R3.wide (by omega), hb⟩
end Go.Proofs.Ytpgbbbgblgkokaa
