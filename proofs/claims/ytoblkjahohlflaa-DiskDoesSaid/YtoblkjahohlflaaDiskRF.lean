/- Contracts of the document's own Copy of a disk (lodgerref05): another disk of the same state, in new memory alone. -/
import Derived.Test.YtoblkjahohlflaaDiskRE
import Derived.Test.YtoblkjahohlflaaFreeC
namespace Go.Proofs.Ytoblkjahohlflaa
open Go.RowKit Go.MapKept Go.Lib
set_option linter.unusedVariables false

theorem slot_is {xs : Array Value} {n : Nat} {v : Value} (h : xs.getD n undef = v) : xs[n]?.getD undef = v := by simpa using h
theorem below1 (w : World) (o : Obj) : Below w.heap.size w (w.alloc o) := (Below.refl _ _).alloc (Nat.le_refl _) _
theorem int_info : (Try.prog.info? 3).map (fun i => (i.zero, i.size, i.bytes)) = some (some (.int .i64 0), 1, 8) := by kernel_rfl

theorem op_append {o : Oper} {a : Act} {w w' : World} {K : Act → World → Prop} {Q : Exit → Act → World → Prop} (x y : Operand) (t : TypeId) (ho : o.op = .call { callee := .builtin .append, args := #[x, y], argTypes := #[t, t] }) (u v r : Value) (hx : a.eval x = u) (hy : a.eval y = v)
    (hrun : (Builtin.append_ #[t, t] o.type #[u, v]).run Try.prog w = .ok r w') (h : K (a.put o.dst r) w') : o.wp Try.prog a w K Q := by
  unfold Oper.wp execOp
  simp only [ho, resolve, invoke, builtin, Sem.run_bind, Sem.run_pure, Result.andThen_ok, List.map_toArray, List.map_cons, List.map_nil, hx, hy, hrun]
  exact h

/-- All of a row behind a new empty one. -/
theorem app_any {P : Program} {W : World} {b B : Nat} {v z : Value} {m bytes : Nat} {xs : List Value} {t e ty : TypeId} {i : TypeInfo} (ht : P.underlying t = some (.slice e)) (hi : P.info? e = some i) (hz : i.zero = some z) (h1 : i.size = 1) (hby : i.bytes = bytes) (hzs : z.cells.size = 1)
    (hd : W.heap[b]? = some (.cells #[] e (0, 0))) (hB : B ≤ b) (hs : W.ownsRow 0 e 1 v m xs) (hone : ∀ u ∈ xs, u.oneCell' = true) (hm : m * bytes ≤ 140737488355328) (hmx : m ≤ 1048576) :
    ∃ v' W', (Builtin.append_ #[t, t] ty #[.slice (some ⟨b, 0, none⟩) 0 0, v]).run P W = .ok v' W' ∧ Below W.heap.size W W' ∧ W'.ownsRow B e 1 v' m xs ∧ (∀ g, v'.ownBlock = some g → (m = 0 ∧ g = b) ∨ g = W.heap.size) := by
  have hbl : b < W.heap.size := lt_of_some hd
  have hdst : W.ownsRow B e 1 (.slice (some ⟨b, 0, none⟩) 0 0) 0 [] := ⟨rfl, .inr ⟨b, 0, #[], rfl, hB, hd, Nat.le_refl _, Nat.zero_le _, rfl, rfl⟩⟩
  have hcells := fun g => hs.cells (g := g)
  have hlen := hs.1
  rcases hs.2 with ⟨rfl, rfl⟩ | ⟨g, cap, cur, rfl, _, hblk, hnc, _⟩
  · obtain rfl : xs = [] := List.length_eq_zero_iff.1 (by simpa using hlen)
    exact ⟨_, W, run_append_owned_none (P := P) (w := W) (base := B) (t := t) (ty := ty) (e := e) (i := i) (size := 1) ht hi _ 0 [] hdst, Below.refl _ _, hdst, fun g hg => .inl ⟨rfl, by simp [Value.ownBlock] at hg; exact hg.symm⟩⟩
  · have hc2 : ∀ j u, xs[j]? = some u → W.cell? ((⟨g, 0, none⟩ : Addr).add j) = some u := fun j u hu => hcells g rfl j u hu
    rcases Nat.eq_zero_or_pos m with rfl | hp
    · obtain rfl : xs = [] := List.length_eq_zero_iff.1 (by simpa using hlen)
      refine ⟨_, W, ?_, Below.refl _ _, hdst, fun g hg => .inl ⟨rfl, by simp [Value.ownBlock] at hg; exact hg.symm⟩⟩
      simp [Builtin.append_, run_underlying ht, sizeOf, typeInfo, hi, Builtin.lenOf, Builtin.firstCells, storeCells, loadCells, loadCellsFrom]
    · obtain ⟨v', W', hrun, hown, _, _, hat⟩ := run_append_own_at (P := P) (w := W) B t ty e i z 1 bytes ht hi hz h1 hby hzs (by omega) (.slice (some ⟨b, 0, none⟩) 0 0) 0 [] hdst ⟨g, 0, none⟩ m cap xs (by simpa using hlen) hc2 hone (by unfold maxLen; omega) (by simpa using hm) (by omega)
      have hg := run_append_grow (P := P) (w := W) t ty e i z ht hi hz ⟨b, 0, none⟩ 0 0 [] (by simp) (by intro j u hu; simp at hu) ⟨g, 0, none⟩ m cap xs (by rw [h1]; simpa using hlen) hc2 (by omega) (by omega) (by rw [hby]; exact growslice_fits (by omega) (by simpa using hm))
      rw [hrun] at hg
      injection hg with e1 e2
      subst e1 e2
      refine ⟨_, _, hrun, ((Below.refl _ _).drew).alloc (Nat.le_refl _) _, by simpa using hown, fun q hq => .inr ?_⟩
      simp [Value.ownBlock] at hq; exact hq.symm

theorem app_s {W : World} {b B : Nat} {v : Value} {m : Nat} {xs : List Value} {ty : TypeId} (hd : W.heap[b]? = some (.cells #[] 9 (0, 0))) (hB : B ≤ b) (hs : W.ownsRow 0 9 1 v m xs) (hq : (∀ u ∈ xs, u.oneCell' = true) ∧ m ≤ 1048576) :
    ∃ v' W', (Builtin.append_ #[47, 47] ty #[.slice (some ⟨b, 0, none⟩) 0 0, v]).run Try.prog W = .ok v' W' ∧ Below W.heap.size W W' ∧ W'.ownsRow B 9 1 v' m xs ∧ (∀ g, v'.ownBlock = some g → (m = 0 ∧ g = b) ∨ g = W.heap.size) := by
  obtain ⟨i0, hi0, hz0, hz1, hz2⟩ := info_parts str_info
  exact app_any Try.underlying47 hi0 hz0 hz1 hz2 rfl hd hB hs hq.1 (by omega) hq.2
theorem app_i {W : World} {b B : Nat} {v : Value} {m : Nat} {xs : List Value} {ty : TypeId} (hd : W.heap[b]? = some (.cells #[] 3 (0, 0))) (hB : B ≤ b) (hs : W.ownsRow 0 3 1 v m xs) (hq : (∀ u ∈ xs, u.oneCell' = true) ∧ m ≤ 1048576) :
    ∃ v' W', (Builtin.append_ #[48, 48] ty #[.slice (some ⟨b, 0, none⟩) 0 0, v]).run Try.prog W = .ok v' W' ∧ Below W.heap.size W W' ∧ W'.ownsRow B 3 1 v' m xs ∧ (∀ g, v'.ownBlock = some g → (m = 0 ∧ g = b) ∨ g = W.heap.size) := by
  obtain ⟨i0, hi0, hz0, hz1, hz2⟩ := info_parts int_info
  exact app_any Try.underlying48 hi0 hz0 hz1 hz2 rfl hd hB hs hq.1 (by omega) hq.2

/-- The copy's three rows, all new, the two of strings unlike. -/
structure Three (w : World) (B : Nat) (s : St) (x y z : Value) : Prop where
  L : w.ownsRow B 9 1 x s.size.toNat (rL s)
  W : w.ownsRow B 3 1 y s.pend.length (rW s.pend)
  T : w.ownsRow B 9 1 z s.pend.length (rT s.pend)
  LT : ∀ g, x.ownBlock = some g → z.ownBlock ≠ some g
theorem own_ge {w w' : World} {B : Nat} {e : TypeId} {size n : Nat} {v : Value} {xs : List Value} (h : w.ownsRow B e size v n xs) (hb : Below w.heap.size w w') : w'.ownsRow B e size v n xs :=
  own_same h (fun g hg => hb.block g (h.lt g hg).2)
theorem Three.later {w w' : World} {B : Nat} {s : St} {x y z : Value} (h : Three w B s x y z) (hb : Below w.heap.size w w') : Three w' B s x y z :=
  ⟨own_ge h.L hb, own_ge h.W hb, own_ge h.T hb, h.LT⟩

/-- Where the copy is: old memory as it was; the two rows of strings, and the second one's first block, unlike. -/
structure CopyC (w : World) (B : Nat) (listed : Array Bool) (a : Act) (W : World) : Prop where
  b : Below B w W
  n : B = w.heap.size
  d1 : listed.getD 5 false = true → listed.getD 17 false = true → ∀ g, (a.tmps.getD 8 undef).ownBlock = some g → (a.tmps.getD 20 undef).ownBlock ≠ some g
  d2 : listed.getD 5 false = true → listed.getD 12 false = true → ∀ g, (a.tmps.getD 8 undef).ownBlock = some g → (a.tmps.getD 15 undef).ownBlock ≠ some g
theorem CopyC.b0 {w W : World} {B : Nat} {listed : Array Bool} {a : Act} (h : CopyC w B listed a W) : Below w.heap.size w W := h.n ▸ h.b
theorem put_ne {a : Act} {dst : Option Tmp} {v : Value} {d : Nat} (h : dst ≠ some d) : (a.put dst v).tmps.getD d undef = a.tmps.getD d undef := by
  unfold Act.put
  cases dst with
  | none => rfl
  | some d' => exact Free.slot_ne v (fun e => h (by rw [e]))
theorem CopyC.set {w W W' : World} {B i : Nat} {listed : Array Bool} {a : Act} {dst : Option Tmp} {v : Value} (h : CopyC w B listed a W) (hb : Below W.heap.size W W') (hi : i ≠ 5 ∧ i ≠ 12 ∧ i ≠ 17) (hd : dst ≠ some 8 ∧ dst ≠ some 15 ∧ dst ≠ some 20) : CopyC w B (listed.setIfInBounds i true) (a.put dst v) W' := by
  refine ⟨h.b.trans (hb.mono (by rw [h.n]; exact h.b.size)), h.n, ?_, ?_⟩
  · rw [getD_set_ne false hi.1, getD_set_ne false hi.2.2, put_ne hd.1, put_ne hd.2.2]; exact h.d1
  · rw [getD_set_ne false hi.1, getD_set_ne false hi.2.1, put_ne hd.1, put_ne hd.2.1]; exact h.d2

theorem CopyC.new15 {w W : World} {B : Nat} {listed : Array Bool} {a : Act} {t e : TypeId} {n : Nat} {xs : List Value} (h : CopyC w B listed a W) (hs : 12 < listed.size) (h8 : listed.getD 5 false = true → W.ownsRow B e 1 (a.tmps.getD 8 undef) n xs) (hd : 15 < a.tmps.size) :
    CopyC w B (listed.setIfInBounds 12 true) (a.put (some 15) (.slice (some ⟨W.heap.size, 0, none⟩) 0 0)) (W.alloc (.cells #[] t)) := by
  have hb := below1 W (.cells #[] t)
  refine ⟨h.b.trans (hb.mono (by rw [h.n]; exact h.b.size)), h.n, ?_, ?_⟩
  · rw [getD_set_ne false (by decide), getD_set_ne false (by decide), put_ne (by decide), put_ne (by decide)]; exact h.d1
  · rw [getD_set_ne false (by decide), put_ne (by decide)]
    intro h5 _ g hg
    have hlt := ((h8 h5).lt g hg).2
    unfold Act.put
    simp [hd, Value.ownBlock]
    omega
theorem CopyC.new8 {w W W' : World} {B : Nat} {listed : Array Bool} {a : Act} {v : Value} {e t : TypeId} {n : Nat} {xs : List Value} (h : CopyC w B listed a W) (hb : Below W.heap.size W W') (hd : 8 < a.tmps.size) (h20 : listed.getD 17 false = true → W.ownsRow B e 1 (a.tmps.getD 20 undef) n xs) (h15 : listed.getD 12 false = true → ∃ b, a.tmps.getD 15 undef = .slice (some ⟨b, 0, none⟩) 0 0 ∧ B ≤ b ∧ W.heap[b]? = some (.cells #[] t (0, 0))) (hat : ∀ g, v.ownBlock = some g → g = W.heap.size) :
    CopyC w B (listed.setIfInBounds 5 true) (a.put (some 8) v) W' := by
  have e8 : (a.put (some 8) v).tmps.getD 8 undef = v := by unfold Act.put; simp [hd]
  refine ⟨h.b.trans (hb.mono (by rw [h.n]; exact h.b.size)), h.n, ?_, ?_⟩
  · rw [getD_set_ne (i := 5) (j := 17) false (by decide), e8, put_ne (by decide)]
    intro _ h17 g hg h2
    have := ((h20 h17).lt g h2).2
    have := hat g hg
    omega
  · rw [getD_set_ne (i := 5) (j := 12) false (by decide), e8, put_ne (by decide)]
    intro _ h12 g hg h2
    obtain ⟨b, hb1, _, hb2⟩ := h15 h12
    rw [hb1] at h2
    simp [Value.ownBlock] at h2
    have := lt_of_some hb2
    have := hat g hg
    omega
theorem CopyC.new20 {w W W' : World} {B : Nat} {listed : Array Bool} {a : Act} {v : Value} {e : TypeId} {n : Nat} {xs : List Value} (h : CopyC w B listed a W) (hb : Below W.heap.size W W') (hd : 20 < a.tmps.size) (h12 : listed.getD 12 false = true) (h8 : listed.getD 5 false = true → W.ownsRow B e 1 (a.tmps.getD 8 undef) n xs) (hat : ∀ g, v.ownBlock = some g → (a.tmps.getD 15 undef).ownBlock = some g ∨ g = W.heap.size) :
    CopyC w B (listed.setIfInBounds 17 true) (a.put (some 20) v) W' := by
  have e20 : (a.put (some 20) v).tmps.getD 20 undef = v := by unfold Act.put; simp [hd]
  refine ⟨h.b.trans (hb.mono (by rw [h.n]; exact h.b.size)), h.n, ?_, ?_⟩
  · rw [getD_set_ne (i := 17) (j := 5) false (by decide), e20, put_ne (by decide)]
    intro h5 _ g hg h2
    have := ((h8 h5).lt g hg).2
    rcases hat g h2 with e | e
    · exact h.d2 h5 h12 g hg e
    · omega
  · rw [getD_set_ne false (by decide), getD_set_ne false (by decide), put_ne (by decide), put_ne (by decide)]; exact h.d2

theorem V_mono {VL : List (World → Value → Prop)} {w w' : World} (h : ∀ p ∈ VL, ∀ u, p w u → p w' u) : ∀ j u, Free.V VL j w u → Free.V VL j w' u := by
  intro j u hv
  unfold Free.V at *
  cases hi : VL[j]? with
  | none => simp only [List.getD_eq_getElem?_getD, hi]; exact trivial
  | some p =>
    simp only [List.getD_eq_getElem?_getD, hi, Option.getD_some] at hv ⊢
    exact h p (List.mem_of_getElem? hi) u hv

theorem arr27 {α : Type} {cs : Array α} (h : cs.size = 27) : ∃ y0 y1 y2 y3 y4 y5 y6 y7 y8 y9 y10 y11 y12 y13 y14 y15 y16 y17 y18 y19 y20 y21 y22 y23 y24 y25 y26, cs = #[y0, y1, y2, y3, y4, y5, y6, y7, y8, y9, y10, y11, y12, y13, y14, y15, y16, y17, y18, y19, y20, y21, y22, y23, y24, y25, y26] := by
  obtain ⟨l⟩ := cs
  match l, h with
  | [y0, y1, y2, y3, y4, y5, y6, y7, y8, y9, y10, y11, y12, y13, y14, y15, y16, y17, y18, y19, y20, y21, y22, y23, y24, y25, y26], _ => exact ⟨y0, y1, y2, y3, y4, y5, y6, y7, y8, y9, y10, y11, y12, y13, y14, y15, y16, y17, y18, y19, y20, y21, y22, y23, y24, y25, y26, rfl⟩

set_option maxHeartbeats 8000000 in
set_option maxRecDepth 100000 in
theorem rcopy_any {w : World} {r : Nat} {F : Nat → Prop} {s : St} (D0 : RefAt w r F s) (hpl : s.pend.length < 1048576) :
    Calls Try.prog 8 #[.pointer (some ⟨r, 0, none⟩)] w fun e w' => ∃ q F', e = .returned (.pointer (some ⟨q, 0, none⟩)) ∧ RefAt w' q F' s ∧ (∀ b, F' b → w.heap.size ≤ b) ∧ Below w.heap.size w w' := by
  obtain ⟨vL, vW, vT, D⟩ := D0
  have hgood := D.good
  obtain ⟨Al, cl, hvl⟩ := own_slice D.rowL
  obtain ⟨Aw, cw, hvw⟩ := own_slice D.rowW
  obtain ⟨At, ct, hvt⟩ := own_slice D.rowT
  have hmL : (∀ u ∈ rL s, u.oneCell' = true) ∧ s.size.toNat ≤ 1048576 := ⟨by intro u hu; simp [rL] at hu; obtain ⟨_, _, rfl⟩ := hu; rfl, by have := hgood.size2; omega⟩
  have hmP : (∀ u ∈ rT s.pend, u.oneCell' = true) ∧ s.pend.length ≤ 1048576 := ⟨by intro u hu; simp [rT] at hu; obtain ⟨_, _, _, rfl⟩ := hu; rfl, by omega⟩
  have hmW : (∀ u ∈ rW s.pend, u.oneCell' = true) ∧ s.pend.length ≤ 1048576 := ⟨by intro u hu; simp [rW] at hu; obtain ⟨_, _, _, rfl⟩ := hu; rfl, by omega⟩
  obtain ⟨B, hBw⟩ : ∃ B, B = w.heap.size := ⟨_, rfl⟩
  have hrl := D.blk.lt
  go_enter Try.func8, Try.ntmps8
  go_wp2_with fail
  refine FreeC.wp_freeC [(fun w u => ∃ b, u = .slice (some ⟨b, 0, none⟩) 0 0 ∧ B ≤ b ∧ w.heap[b]? = some (.cells #[] 9 (0, 0))),
    (fun _ u => u = .pointer (some ⟨r, 0, none⟩)),
    (fun _ u => u = .pointer (some ⟨r, 0, none⟩)),
    (fun _ u => u = .pointer (some ⟨r, 0, none⟩)),
    (fun _ u => u = vL),
    (fun w u => w.ownsRow B 9 1 u s.size.toNat (rL s)),
    (fun w u => ∃ b, u = .slice (some ⟨b, 0, none⟩) 0 0 ∧ B ≤ b ∧ w.heap[b]? = some (.cells #[] 3 (0, 0))),
    (fun _ u => u = .pointer (some ⟨r, 0, none⟩)),
    (fun _ u => u = .pointer (some ⟨r, 0, none⟩)),
    (fun _ u => u = .pointer (some ⟨r, 1, none⟩)),
    (fun _ u => u = vW),
    (fun w u => w.ownsRow B 3 1 u s.pend.length (rW s.pend)),
    (fun w u => ∃ b, u = .slice (some ⟨b, 0, none⟩) 0 0 ∧ B ≤ b ∧ w.heap[b]? = some (.cells #[] 9 (0, 0))),
    (fun _ u => u = .pointer (some ⟨r, 0, none⟩)),
    (fun _ u => u = .pointer (some ⟨r, 0, none⟩)),
    (fun _ u => u = .pointer (some ⟨r, 2, none⟩)),
    (fun _ u => u = vT),
    (fun w u => w.ownsRow B 9 1 u s.pend.length (rT s.pend)),
    (fun _ u => u = .pointer (some ⟨r, 0, none⟩)),
    (fun _ u => u = .pointer (some ⟨r, 0, none⟩)),
    (fun _ u => u = .pointer (some ⟨r, 3, none⟩)),
    (fun _ u => u = .int .i64 (leftR s)),
    (fun w u => ∃ x y z, u = .agg #[x, y, z, .int .i64 (leftR s)] ∧ Three w B s x y z),
    (fun w u => ∃ q x y z, u = .pointer (some ⟨q, 0, none⟩) ∧ B ≤ q ∧ w.heap[q]? = some (.cells #[x, y, z, .int .i64 (leftR s)] 50 (0, 0)) ∧ Three w B s x y z),
    (fun w u => ∃ q x y z, u = .pointer (some ⟨q, 0, none⟩) ∧ B ≤ q ∧ w.heap[q]? = some (.cells #[x, y, z, .int .i64 (leftR s)] 50 (0, 0)) ∧ Three w B s x y z)] (CopyC w B) (by kernel_rfl) (by kernel_rfl) ⟨by rw [hBw]; exact ⟨rfl, rfl, rfl, Nat.le_refl _, fun _ _ => rfl⟩, hBw, by intro h; simp at h, by intro h; simp at h⟩ ?_ ?_
  · have pm : ∀ p ∈ [(fun w u => ∃ b, u = .slice (some ⟨b, 0, none⟩) 0 0 ∧ B ≤ b ∧ w.heap[b]? = some (.cells #[] 9 (0, 0))),
    (fun _ u => u = .pointer (some ⟨r, 0, none⟩)),
    (fun _ u => u = .pointer (some ⟨r, 0, none⟩)),
    (fun _ u => u = .pointer (some ⟨r, 0, none⟩)),
    (fun _ u => u = vL),
    (fun w u => w.ownsRow B 9 1 u s.size.toNat (rL s)),
    (fun w u => ∃ b, u = .slice (some ⟨b, 0, none⟩) 0 0 ∧ B ≤ b ∧ w.heap[b]? = some (.cells #[] 3 (0, 0))),
    (fun _ u => u = .pointer (some ⟨r, 0, none⟩)),
    (fun _ u => u = .pointer (some ⟨r, 0, none⟩)),
    (fun _ u => u = .pointer (some ⟨r, 1, none⟩)),
    (fun _ u => u = vW),
    (fun w u => w.ownsRow B 3 1 u s.pend.length (rW s.pend)),
    (fun w u => ∃ b, u = .slice (some ⟨b, 0, none⟩) 0 0 ∧ B ≤ b ∧ w.heap[b]? = some (.cells #[] 9 (0, 0))),
    (fun _ u => u = .pointer (some ⟨r, 0, none⟩)),
    (fun _ u => u = .pointer (some ⟨r, 0, none⟩)),
    (fun _ u => u = .pointer (some ⟨r, 2, none⟩)),
    (fun _ u => u = vT),
    (fun w u => w.ownsRow B 9 1 u s.pend.length (rT s.pend)),
    (fun _ u => u = .pointer (some ⟨r, 0, none⟩)),
    (fun _ u => u = .pointer (some ⟨r, 0, none⟩)),
    (fun _ u => u = .pointer (some ⟨r, 3, none⟩)),
    (fun _ u => u = .int .i64 (leftR s)),
    (fun w u => ∃ x y z, u = .agg #[x, y, z, .int .i64 (leftR s)] ∧ Three w B s x y z),
    (fun w u => ∃ q x y z, u = .pointer (some ⟨q, 0, none⟩) ∧ B ≤ q ∧ w.heap[q]? = some (.cells #[x, y, z, .int .i64 (leftR s)] 50 (0, 0)) ∧ Three w B s x y z),
    (fun w u => ∃ q x y z, u = .pointer (some ⟨q, 0, none⟩) ∧ B ≤ q ∧ w.heap[q]? = some (.cells #[x, y, z, .int .i64 (leftR s)] 50 (0, 0)) ∧ Three w B s x y z)], ∀ W W', Below W.heap.size W W' → ∀ u, p W u → p W' u := by
      intro p hp W W' hb u hu
      simp only [List.mem_cons, List.not_mem_nil, or_false] at hp
      rcases hp with rfl | rfl | rfl | rfl | rfl | rfl | rfl | rfl | rfl | rfl | rfl | rfl | rfl | rfl | rfl | rfl | rfl | rfl | rfl | rfl | rfl | rfl | rfl | rfl | rfl
      all_goals first
        | (with_reducible exact hu)
        | exact own_ge hu hb
        | (obtain ⟨b, h1, h2, h3⟩ := hu
           exact ⟨b, h1, h2, (hb.block b (lt_of_some h3)).trans h3⟩)
        | (obtain ⟨x, y, z, h1, h2⟩ := hu
           exact ⟨x, y, z, h1, h2.later hb⟩)
        | (obtain ⟨q, x, y, z, h1, h2, h3, h4⟩ := hu
           exact ⟨q, x, y, z, h1, h2, (hb.block q (lt_of_some h3)).trans h3, h4.later hb⟩)
    refine ⟨?_, ?_, ?_, ?_, ?_, ?_, ?_, ?_, ?_, ?_, ?_, ?_, ?_, ?_, ?_, ?_, ?_, ?_, ?_, ?_, ?_, ?_, ?_, ?_, ?_, trivial⟩
    · intro listed A W hA hno hr K hK
      simp [go_sem]
      refine hK _ _ (hA.c.set (below1 _ _) (by decide) (by decide)) ⟨W.heap.size, rfl, by have := hA.c.b.size; have := hA.c.n; omega, heap_alloc_new W _⟩ (fun j u _ _ hv => V_mono (fun p hp u hu => pm p hp _ _ (below1 _ _) u hu) j u hv)
    · intro listed A W hA hno hr K hK
      have e0 : A.tmps[0]?.getD undef = .pointer (some ⟨r, 0, none⟩) := slot_is ((hA.kept 0 (Free.not_dst (by kernel_rfl))).trans rfl)
      simp [go_sem, e0]
      exact hK _ _ (hA.c.set (Below.refl _ _) (by decide) (by decide)) rfl (fun _ _ _ _ h => h)
    · intro listed A W hA hno hr K hK
      have e4 : A.tmps[4]?.getD undef = .pointer (some ⟨r, 0, none⟩) := slot_is (hA.val 1 _ rfl (hr ⟨1, .data⟩ (by simp) rfl))
      simp [go_sem, e4]
      exact hK _ _ (hA.c.set (Below.refl _ _) (by decide) (by decide)) rfl (fun _ _ _ _ h => h)
    · intro listed A W hA hno hr K hK
      have e5 : A.tmps[5]?.getD undef = .pointer (some ⟨r, 0, none⟩) := slot_is (hA.val 2 _ rfl (hr ⟨2, .data⟩ (by simp) rfl))
      simp [go_sem, e5]
      exact hK _ _ (hA.c.set (Below.refl _ _) (by decide) (by decide)) rfl (fun _ _ _ _ h => h)
    · intro listed A W hA hno hr K hK
      have e6 : A.tmps[6]?.getD undef = .pointer (some ⟨r, 0, none⟩) := slot_is (hA.val 3 _ rfl (hr ⟨3, .data⟩ (by simp) rfl))
      have c := (D.later hA.c.b0).x0
      simp [go_sem, e6, c]
      exact hK _ _ (hA.c.set (Below.refl _ _) (by decide) (by decide)) rfl (fun _ _ _ _ h => h)
    · intro listed A W hA hno hr K hK
      have e3 : (fun w u => ∃ b, u = .slice (some ⟨b, 0, none⟩) 0 0 ∧ B ≤ b ∧ w.heap[b]? = some (.cells #[] 9 (0, 0))) W (A.tmps.getD 3 undef) := hA.val 0 _ rfl (hr ⟨0, .data⟩ (by simp) rfl)
      have e7 : A.tmps[7]?.getD undef = vL := slot_is (hA.val 4 _ rfl (hr ⟨4, .data⟩ (by simp) rfl))
      obtain ⟨b, e3, hb, hh⟩ := e3
      have f3 : A.eval (.tmp 3) = .slice (some ⟨b, 0, none⟩) 0 0 := e3
      have f7 : A.eval (.tmp 7) = vL := hA.val 4 _ rfl (hr ⟨4, .data⟩ (by simp) rfl)
      replace e3 := slot_is e3
      obtain ⟨v', W', hrun, hge, hown, hat⟩ := app_s (ty := 47) hh hb ((D.later hA.c.b0).rowL) hmL
      refine op_append (.tmp 3) (.tmp 7) 47 rfl _ _ _ f3 f7 hrun ?_
      refine hK _ _ (hA.c.new8 hge (by rw [hA.slots]; simp) (fun hl => hA.val 17 _ rfl hl) (fun hl => hA.val 12 _ rfl hl) (fun g hg => (hat g hg).resolve_left (fun h => by have := hgood.size1; omega))) hown (fun j u _ _ hv => V_mono (fun p hp u hu => pm p hp _ _ hge u hu) j u hv)
    · intro listed A W hA hno hr K hK
      simp [go_sem]
      refine hK _ _ (hA.c.set (below1 _ _) (by decide) (by decide)) ⟨W.heap.size, rfl, by have := hA.c.b.size; have := hA.c.n; omega, heap_alloc_new W _⟩ (fun j u _ _ hv => V_mono (fun p hp u hu => pm p hp _ _ (below1 _ _) u hu) j u hv)
    · intro listed A W hA hno hr K hK
      have e0 : A.tmps[0]?.getD undef = .pointer (some ⟨r, 0, none⟩) := slot_is ((hA.kept 0 (Free.not_dst (by kernel_rfl))).trans rfl)
      simp [go_sem, e0]
      exact hK _ _ (hA.c.set (Below.refl _ _) (by decide) (by decide)) rfl (fun _ _ _ _ h => h)
    · intro listed A W hA hno hr K hK
      have e10 : A.tmps[10]?.getD undef = .pointer (some ⟨r, 0, none⟩) := slot_is (hA.val 7 _ rfl (hr ⟨7, .data⟩ (by simp) rfl))
      simp [go_sem, e10]
      exact hK _ _ (hA.c.set (Below.refl _ _) (by decide) (by decide)) rfl (fun _ _ _ _ h => h)
    · intro listed A W hA hno hr K hK
      have e11 : A.tmps[11]?.getD undef = .pointer (some ⟨r, 0, none⟩) := slot_is (hA.val 8 _ rfl (hr ⟨8, .data⟩ (by simp) rfl))
      simp [go_sem, e11]
      exact hK _ _ (hA.c.set (Below.refl _ _) (by decide) (by decide)) rfl (fun _ _ _ _ h => h)
    · intro listed A W hA hno hr K hK
      have e12 : A.tmps[12]?.getD undef = .pointer (some ⟨r, 1, none⟩) := slot_is (hA.val 9 _ rfl (hr ⟨9, .data⟩ (by simp) rfl))
      have c := (D.later hA.c.b0).x1
      simp [go_sem, e12, c]
      exact hK _ _ (hA.c.set (Below.refl _ _) (by decide) (by decide)) rfl (fun _ _ _ _ h => h)
    · intro listed A W hA hno hr K hK
      have e9 : (fun w u => ∃ b, u = .slice (some ⟨b, 0, none⟩) 0 0 ∧ B ≤ b ∧ w.heap[b]? = some (.cells #[] 3 (0, 0))) W (A.tmps.getD 9 undef) := hA.val 6 _ rfl (hr ⟨6, .data⟩ (by simp) rfl)
      have e13 : A.tmps[13]?.getD undef = vW := slot_is (hA.val 10 _ rfl (hr ⟨10, .data⟩ (by simp) rfl))
      obtain ⟨b, e9, hb, hh⟩ := e9
      have f9 : A.eval (.tmp 9) = .slice (some ⟨b, 0, none⟩) 0 0 := e9
      have f13 : A.eval (.tmp 13) = vW := hA.val 10 _ rfl (hr ⟨10, .data⟩ (by simp) rfl)
      replace e9 := slot_is e9
      obtain ⟨v', W', hrun, hge, hown, hat⟩ := app_i (ty := 48) hh hb ((D.later hA.c.b0).rowW) hmW
      refine op_append (.tmp 9) (.tmp 13) 48 rfl _ _ _ f9 f13 hrun ?_
      refine hK _ _ (hA.c.set hge (by decide) (by decide)) hown (fun j u _ _ hv => V_mono (fun p hp u hu => pm p hp _ _ hge u hu) j u hv)
    · intro listed A W hA hno hr K hK
      simp [go_sem]
      refine hK _ _ (hA.c.new15 (by rw [hA.size]; simp) (fun hl => hA.val 5 _ rfl hl) (by rw [hA.slots]; simp)) ⟨W.heap.size, rfl, by have := hA.c.b.size; have := hA.c.n; omega, heap_alloc_new W _⟩ (fun j u _ _ hv => V_mono (fun p hp u hu => pm p hp _ _ (below1 _ _) u hu) j u hv)
    · intro listed A W hA hno hr K hK
      have e0 : A.tmps[0]?.getD undef = .pointer (some ⟨r, 0, none⟩) := slot_is ((hA.kept 0 (Free.not_dst (by kernel_rfl))).trans rfl)
      simp [go_sem, e0]
      exact hK _ _ (hA.c.set (Below.refl _ _) (by decide) (by decide)) rfl (fun _ _ _ _ h => h)
    · intro listed A W hA hno hr K hK
      have e16 : A.tmps[16]?.getD undef = .pointer (some ⟨r, 0, none⟩) := slot_is (hA.val 13 _ rfl (hr ⟨13, .data⟩ (by simp) rfl))
      simp [go_sem, e16]
      exact hK _ _ (hA.c.set (Below.refl _ _) (by decide) (by decide)) rfl (fun _ _ _ _ h => h)
    · intro listed A W hA hno hr K hK
      have e17 : A.tmps[17]?.getD undef = .pointer (some ⟨r, 0, none⟩) := slot_is (hA.val 14 _ rfl (hr ⟨14, .data⟩ (by simp) rfl))
      simp [go_sem, e17]
      exact hK _ _ (hA.c.set (Below.refl _ _) (by decide) (by decide)) rfl (fun _ _ _ _ h => h)
    · intro listed A W hA hno hr K hK
      have e18 : A.tmps[18]?.getD undef = .pointer (some ⟨r, 2, none⟩) := slot_is (hA.val 15 _ rfl (hr ⟨15, .data⟩ (by simp) rfl))
      have c := (D.later hA.c.b0).x2
      simp [go_sem, e18, c]
      exact hK _ _ (hA.c.set (Below.refl _ _) (by decide) (by decide)) rfl (fun _ _ _ _ h => h)
    · intro listed A W hA hno hr K hK
      have e15 : (fun w u => ∃ b, u = .slice (some ⟨b, 0, none⟩) 0 0 ∧ B ≤ b ∧ w.heap[b]? = some (.cells #[] 9 (0, 0))) W (A.tmps.getD 15 undef) := hA.val 12 _ rfl (hr ⟨12, .data⟩ (by simp) rfl)
      have e19 : A.tmps[19]?.getD undef = vT := slot_is (hA.val 16 _ rfl (hr ⟨16, .data⟩ (by simp) rfl))
      obtain ⟨b, e15, hb, hh⟩ := e15
      have f15 : A.eval (.tmp 15) = .slice (some ⟨b, 0, none⟩) 0 0 := e15
      have f19 : A.eval (.tmp 19) = vT := hA.val 16 _ rfl (hr ⟨16, .data⟩ (by simp) rfl)
      have e15' := e15
      replace e15 := slot_is e15
      obtain ⟨v', W', hrun, hge, hown, hat⟩ := app_s (ty := 47) hh hb ((D.later hA.c.b0).rowT) hmP
      refine op_append (.tmp 15) (.tmp 19) 47 rfl _ _ _ f15 f19 hrun ?_
      refine hK _ _ (hA.c.new20 hge (by rw [hA.slots]; simp) (hr ⟨12, .data⟩ (by simp) rfl) (fun hl => hA.val 5 _ rfl hl) (fun g hg => by rw [e15']; exact (hat g hg).imp (fun h => by rw [h.2]; rfl) id)) hown (fun j u _ _ hv => V_mono (fun p hp u hu => pm p hp _ _ hge u hu) j u hv)
    · intro listed A W hA hno hr K hK
      have e0 : A.tmps[0]?.getD undef = .pointer (some ⟨r, 0, none⟩) := slot_is ((hA.kept 0 (Free.not_dst (by kernel_rfl))).trans rfl)
      simp [go_sem, e0]
      exact hK _ _ (hA.c.set (Below.refl _ _) (by decide) (by decide)) rfl (fun _ _ _ _ h => h)
    · intro listed A W hA hno hr K hK
      have e21 : A.tmps[21]?.getD undef = .pointer (some ⟨r, 0, none⟩) := slot_is (hA.val 18 _ rfl (hr ⟨18, .data⟩ (by simp) rfl))
      simp [go_sem, e21]
      exact hK _ _ (hA.c.set (Below.refl _ _) (by decide) (by decide)) rfl (fun _ _ _ _ h => h)
    · intro listed A W hA hno hr K hK
      have e22 : A.tmps[22]?.getD undef = .pointer (some ⟨r, 0, none⟩) := slot_is (hA.val 19 _ rfl (hr ⟨19, .data⟩ (by simp) rfl))
      simp [go_sem, e22]
      exact hK _ _ (hA.c.set (Below.refl _ _) (by decide) (by decide)) rfl (fun _ _ _ _ h => h)
    · intro listed A W hA hno hr K hK
      have e23 : A.tmps[23]?.getD undef = .pointer (some ⟨r, 3, none⟩) := slot_is (hA.val 20 _ rfl (hr ⟨20, .data⟩ (by simp) rfl))
      have c := (D.later hA.c.b0).x3
      simp [go_sem, e23, c]
      exact hK _ _ (hA.c.set (Below.refl _ _) (by decide) (by decide)) rfl (fun _ _ _ _ h => h)
    · intro listed A W hA hno hr K hK
      have e8 : (fun w u => w.ownsRow B 9 1 u s.size.toNat (rL s)) W (A.tmps.getD 8 undef) := hA.val 5 _ rfl (hr ⟨5, .data⟩ (by simp) rfl)
      have e14 : (fun w u => w.ownsRow B 3 1 u s.pend.length (rW s.pend)) W (A.tmps.getD 14 undef) := hA.val 11 _ rfl (hr ⟨11, .data⟩ (by simp) rfl)
      have e20 : (fun w u => w.ownsRow B 9 1 u s.pend.length (rT s.pend)) W (A.tmps.getD 20 undef) := hA.val 17 _ rfl (hr ⟨17, .data⟩ (by simp) rfl)
      have e24 : A.tmps[24]?.getD undef = .int .i64 (leftR s) := slot_is (hA.val 21 _ rfl (hr ⟨21, .data⟩ (by simp) rfl))
      have hd := hA.c.d1 (hr ⟨5, .data⟩ (by simp) rfl) (hr ⟨17, .data⟩ (by simp) rfl)
      obtain ⟨x, hx⟩ : ∃ x, A.tmps.getD 8 undef = x := ⟨_, rfl⟩
      obtain ⟨y, hy⟩ : ∃ x, A.tmps.getD 14 undef = x := ⟨_, rfl⟩
      obtain ⟨z, hz⟩ : ∃ x, A.tmps.getD 20 undef = x := ⟨_, rfl⟩
      rw [hx] at e8 hd
      rw [hy] at e14
      rw [hz] at e20 hd
      obtain ⟨Ax, cx, rfl⟩ := own_slice e8
      obtain ⟨Ay, cy, rfl⟩ := own_slice e14
      obtain ⟨Az, cz, rfl⟩ := own_slice e20
      have f8 := slot_is hx
      have f14 := slot_is hy
      have f20 := slot_is hz
      simp [go_sem, f8, f14, f20, e24]
      exact hK _ _ (hA.c.set (Below.refl _ _) (by decide) (by decide)) ⟨_, _, _, rfl, e8, e14, e20, hd⟩ (fun _ _ _ _ h => h)
    · intro listed A W hA hno hr K hK
      have e25 : (fun w u => ∃ x y z, u = .agg #[x, y, z, .int .i64 (leftR s)] ∧ Three w B s x y z) W (A.tmps.getD 25 undef) := hA.val 22 _ rfl (hr ⟨22, .data⟩ (by simp) rfl)
      obtain ⟨x, y, z, e25, h3⟩ := e25
      replace e25 := slot_is e25
      obtain ⟨Ax, cx, rfl⟩ := own_slice h3.L
      obtain ⟨Ay, cy, rfl⟩ := own_slice h3.W
      obtain ⟨Az, cz, rfl⟩ := own_slice h3.T
      simp [go_sem, e25]
      exact hK _ _ (hA.c.set (below1 _ _) (by decide) (by decide)) ⟨W.heap.size, _, _, _, rfl, by have := hA.c.b.size; have := hA.c.n; omega, heap_alloc_new W _, h3.later (below1 _ _)⟩ (fun j u _ _ hv => V_mono (fun p hp u hu => pm p hp _ _ (below1 _ _) u hu) j u hv)
    · intro listed A W hA hno hr K hK
      have e26 : (fun w u => ∃ q x y z, u = .pointer (some ⟨q, 0, none⟩) ∧ B ≤ q ∧ w.heap[q]? = some (.cells #[x, y, z, .int .i64 (leftR s)] 50 (0, 0)) ∧ Three w B s x y z) W (A.tmps.getD 26 undef) := hA.val 23 _ rfl (hr ⟨23, .data⟩ (by simp) rfl)
      obtain ⟨q, x, y, z, e26, h1, h2, h3⟩ := e26
      replace e26 := slot_is e26
      simp [go_sem, e26]
      exact hK _ _ (hA.c.set (Below.refl _ _) (by decide) (by decide)) ⟨q, x, y, z, rfl, h1, h2, h3⟩ (fun _ _ _ _ h => h)
  · intro A W hA
    obtain ⟨q, x, y, z, s2, h1, h2, h3⟩ := hA.val 24 _ rfl rfl
    have hb := hA.c.b0
    have hsz := hA.slots
    have hde := hA.defers
    clear hA
    obtain ⟨tm, de⟩ := A
    simp only [Free.got] at s2 hsz hde
    obtain ⟨y0, y1, y2, y3, y4, y5, y6, y7, y8, y9, y10, y11, y12, y13, y14, y15, y16, y17, y18, y19, y20, y21, y22, y23, y24, y25, y26, rfl⟩ := arr27 hsz
    have t2 : y2 = .pointer (some ⟨q, 0, none⟩) := s2
    subst t2 hde
    clear s2 hsz
    have hz : ∀ (v : Value) (e : TypeId) (n : Nat) (l : List Value), W.ownsRow B e 1 v n l → W.ownsRow 0 e 1 v n l := fun v e n l h => ⟨h.1, h.2.imp id (fun ⟨g, c, u, a1, a2, a3⟩ => ⟨g, c, u, a1, Nat.zero_le _, a3⟩)⟩
    have FIN : ∃ q' F', Ending.returned (Value.pointer (some ⟨q, 0, none⟩)) = .returned (.pointer (some ⟨q', 0, none⟩)) ∧ RefAt W q' F' s ∧ (∀ b, F' b → w.heap.size ≤ b) ∧ Below w.heap.size w W := by
      refine ⟨q, fun b => B ≤ b ∧ b < W.heap.size, rfl, ⟨x, y, z, ⟨⟨h1, lt_of_some h2⟩, fun g hg => h3.L.lt g hg, fun g hg => h3.W.lt g hg, fun g hg => h3.T.lt g hg, h3.LT, h2, hz _ _ _ _ h3.L, hz _ _ _ _ h3.W, hz _ _ _ _ h3.T, fun b hb => hb.2, hgood⟩⟩, fun b hb => by rw [← hBw]; exact hb.1, hb⟩
    have HF := Lib.hid FIN
    clear FIN h1 h2 h3 hz hb
    go_wp2_with fail
    go_ret
    obtain ⟨q', F', a1, a2⟩ := HF.out
    exact ⟨q', F', a1, a2⟩

end Go.Proofs.Ytoblkjahohlflaa
