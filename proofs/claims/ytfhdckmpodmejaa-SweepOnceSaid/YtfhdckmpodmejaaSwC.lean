/- The document's Idle, Seen and Given. -/
import Derived.Test.YtfhdckmpodmejaaSwB
import Derived.Deep.RegionHeld3
namespace Go.Proofs.Ytfhdckmpodmejaa.Sw
open Go.ChangeShapes Go.WideShapes Go.ChangeAt Go.RowKit Go.Lib Go.Joins Go.Deep
open Sp Rw
set_option linter.unusedVariables false
set_option maxRecDepth 100000

/-- 'append([]int{}, l...)': what it tells, and what is there then. -/
theorem run_app_new {X : World} {A : Option Addr} {m c : Nat} {l : List Int} (hr : VR X A m (iv l)) (hm : m < 1000) :
    ∃ A' p' W5, (Builtin.append_ #[23, 23] 23 #[.slice (some ⟨X.heap.size, 0, none⟩) 0 0, .slice A m c]).run Try.prog (X.alloc (.cells #[] 3)) = .ok (.slice A' m p') W5 ∧ Sp.Sep X W5 [rowS 3 1 (.slice A' m p') m (iv l)] := by
  have S1 := rows_lit (Sp.Sep.nil (Below.refl X.heap.size X)) 3 1
  rw [List.nil_append] at S1
  obtain ⟨i0, hi0, hz0, hz1, hz2⟩ := info_parts int_infos
  obtain ⟨G, ⟨hrow, hG⟩, _, _, put⟩ := S1.at_ 0 rfl
  by_cases h0 : 0 < m
  · have hr2 := hr.later (below1 X (.cells #[] 3))
    obtain ⟨g, o, rfl, hc⟩ := hr2.c h0
    obtain ⟨v5, W5, hrun, own5, g5, _, hat5⟩ := run_append_own_at (P := Try.prog) (X.alloc (.cells #[] 3)) 0 23 23 3 i0 _ 1 8 Try.underlying23 hi0 hz0 hz1 hz2 rfl (by decide) _ 0 [] hrow ⟨g, o, none⟩ m c (iv l) (by rw [← hr.len]; omega) hr2.src (iv_one l) (by unfold maxLen; omega) (by omega) (Nat.zero_le _)
    have S5 := put W5 (fun b => v5.ownBlock = some b) (rowS 3 1 v5 (0 + m) ([] ++ iv l)) ⟨own5, fun b => Iff.rfl⟩ (fun b hb => by
      rcases hat5 with e | e
      · left; exact (hG b).2 (e ▸ hb)
      · right; rw [e] at hb; injection hb with hb; rw [← hb]; exact Nat.le_refl _) ((Only.refl _ _).grown g5 (fun q hq => .inl ((hG q).2 hq)))
    rw [Nat.zero_add] at S5
    have S6 : Sp.Sep X W5 [rowS 3 1 v5 m (iv l)] := by simpa using S5
    obtain ⟨A', n', rfl⟩ := rows_slice S6 (k := 0) rfl
    refine ⟨A', n', W5, hrun, S6⟩
  · obtain rfl : m = 0 := by omega
    have hL : l = [] := List.eq_nil_of_length_eq_zero (by rw [← iv_len]; exact hr.len.symm)
    subst hL
    cases A with
    | none => exact ⟨_, _, _, run_append_zero 0 23 23 3 i0 1 Try.underlying23 hi0 _ 0 [] hrow c, S1⟩
    | some ad =>
      obtain ⟨v5, W5, hrun, own5, g5, _, hat5⟩ := run_append_own_at (P := Try.prog) (X.alloc (.cells #[] 3)) 0 23 23 3 i0 _ 1 8 Try.underlying23 hi0 hz0 hz1 hz2 rfl (by decide) _ 0 [] hrow ad 0 c [] rfl (by intro j u hu; simp at hu) (by intro u hu; simp at hu) (by unfold maxLen; omega) (by omega) (Nat.zero_le _)
      have S5 := put W5 (fun b => v5.ownBlock = some b) (rowS 3 1 v5 (0 + 0) ([] ++ [])) ⟨own5, fun b => Iff.rfl⟩ (fun b hb => by
        rcases hat5 with e | e
        · left; exact (hG b).2 (e ▸ hb)
        · right; rw [e] at hb; injection hb with hb; rw [← hb]; exact Nat.le_refl _) ((Only.refl _ _).grown g5 (fun q hq => .inl ((hG q).2 hq)))
      have S6 : Sp.Sep X W5 [rowS 3 1 v5 0 (iv [])] := S5
      obtain ⟨A', n', rfl⟩ := rows_slice S6 (k := 0) rfl
      exact ⟨A', n', W5, hrun, S6⟩
theorem ints_one (v c n : Int) (A : Option Addr) (m p : Nat) : (#[.slice A m p, .int .i64 v, .int .i64 c, .int .i64 n].all fun (u : Value) => u.oneCell') = true := by simp [Value.oneCell']
theorem info_r : (Try.prog.info? 27).map (·.size) = some 4 := by kernel_rfl
section
variable {ops : Array Oper} {rest : List Oper} {o : Oper} {a : Act} {w : World} {Q : Exit → Act → World → Prop}
theorem load_r (hgd : o.guard = none) (x : Operand) (ho : o.op = .load 27 x) (b : Nat) (hx : a.eval x = .pointer (some ⟨b, 0, none⟩)) {v c n : Int} {A : Option Addr} {m p : Nat} {t : TypeId} (hg : Sp.Blk w b t #[.slice A m p, .int .i64 v, .int .i64 c, .int .i64 n])
    (h : wpList Try.prog ops Q rest (a.put o.dst (.agg #[.slice A m p, .int .i64 v, .int .i64 c, .int .i64 n])) w) : wpList Try.prog ops Q (o :: rest) a w :=
  wpList_load_row hgd _ x ho b hx _ #[.slice A m p, .int .i64 v, .int .i64 c, .int .i64 n] (0, 0) _ hg Try.underlying27 rfl info_r h
theorem store_r (hgd : o.guard = none) (x y : Operand) (ho : o.op = .store 27 x y) (b : Nat) (hx : a.eval x = .pointer (some ⟨b, 0, none⟩)) {v c n v0 c0 n0 : Int} {A A0 : Option Addr} {m p m0 p0 : Nat} (hy : a.eval y = .agg #[.slice A m p, .int .i64 v, .int .i64 c, .int .i64 n]) {t : TypeId} (hg : Sp.Blk w b t #[.slice A0 m0 p0, .int .i64 v0, .int .i64 c0, .int .i64 n0])
    (h : wpList Try.prog ops Q rest (a.put o.dst undef) (w.setRow b #[.slice A m p, .int .i64 v, .int .i64 c, .int .i64 n])) : wpList Try.prog ops Q (o :: rest) a w :=
  wpList_store_row hgd _ x y ho b #[.slice A m p, .int .i64 v, .int .i64 c, .int .i64 n] hx hy _ _ hg info_r rfl (ints_one v c n A m p) h
end
theorem res_r1 {fn : Func} {p' : Tmp} (h : fn.results = #[.cell p' 27]) (tmps : Array Value) (W : World) (b : Nat) {v c n : Int} {A : Option Addr} {m p : Nat} {t : TypeId} (hp : tmps.getD p' undef = .pointer (some ⟨b, 0, none⟩)) (L : Sp.Blk W b t #[.slice A m p, .int .i64 v, .int .i64 c, .int .i64 n]) :
    (results fn tmps).run Try.prog W = .ok (.agg #[.slice A m p, .int .i64 v, .int .i64 c, .int .i64 n]) W :=
  results_cell_row h tmps W b t #[.slice A m p, .int .i64 v, .int .i64 c, .int .i64 n] (0, 0) _ hp L Try.underlying27 rfl info_r
theorem res_r2 {fn : Func} {p' q' : Tmp} (h : fn.results = #[.cell p' 27, .tmp q']) (tmps : Array Value) (W : World) (b : Nat) {v c n : Int} {A : Option Addr} {m p : Nat} {t : TypeId} {y : Value} (hp : tmps.getD p' undef = .pointer (some ⟨b, 0, none⟩)) (hq : tmps.getD q' undef = y) (L : Sp.Blk W b t #[.slice A m p, .int .i64 v, .int .i64 c, .int .i64 n]) :
    (results fn tmps).run Try.prog W = .ok (.tuple #[.agg #[.slice A m p, .int .i64 v, .int .i64 c, .int .i64 n], y]) W := by
  have hp' : tmps[p']?.getD undef = .pointer (some ⟨b, 0, none⟩) := by simpa using hp
  have hq' : tmps[q']?.getD undef = y := by simpa using hq
  have h1 : (loadVar 27 ⟨b, 0, none⟩).run Try.prog W = .ok (.agg #[.slice A m p, .int .i64 v, .int .i64 c, .int .i64 n]) W := run_loadVar_row W b t 27 #[.slice A m p, .int .i64 v, .int .i64 c, .int .i64 n] (0, 0) _ L Try.underlying27 rfl info_r
  simp [results, h, hp', hq', asAddr, h1]
theorem info_p : (Try.prog.info? 25).map (·.size) = some 4 := by kernel_rfl
section
variable {ops : Array Oper} {rest : List Oper} {o : Oper} {a : Act} {w : World} {Q : Exit → Act → World → Prop}
theorem load_p (hgd : o.guard = none) (x : Operand) (ho : o.op = .load 25 x) (b : Nat) (hx : a.eval x = .pointer (some ⟨b, 0, none⟩)) {v c n : Int} {A : Option Addr} {m p : Nat} {t : TypeId} (hg : Sp.Blk w b t #[.slice A m p, .int .i64 v, .int .i64 c, .int .i64 n])
    (h : wpList Try.prog ops Q rest (a.put o.dst (.agg #[.slice A m p, .int .i64 v, .int .i64 c, .int .i64 n])) w) : wpList Try.prog ops Q (o :: rest) a w :=
  wpList_load_row hgd _ x ho b hx _ #[.slice A m p, .int .i64 v, .int .i64 c, .int .i64 n] (0, 0) _ hg Try.underlying25 rfl info_p h
theorem store_p (hgd : o.guard = none) (x y : Operand) (ho : o.op = .store 25 x y) (b : Nat) (hx : a.eval x = .pointer (some ⟨b, 0, none⟩)) {v c n v0 c0 n0 : Int} {A A0 : Option Addr} {m p m0 p0 : Nat} (hy : a.eval y = .agg #[.slice A m p, .int .i64 v, .int .i64 c, .int .i64 n]) {t : TypeId} (hg : Sp.Blk w b t #[.slice A0 m0 p0, .int .i64 v0, .int .i64 c0, .int .i64 n0])
    (h : wpList Try.prog ops Q rest (a.put o.dst undef) (w.setRow b #[.slice A m p, .int .i64 v, .int .i64 c, .int .i64 n])) : wpList Try.prog ops Q (o :: rest) a w :=
  wpList_store_row hgd _ x y ho b #[.slice A m p, .int .i64 v, .int .i64 c, .int .i64 n] hx hy _ _ hg info_p rfl (ints_one v c n A m p) h
end
theorem res_p1 {fn : Func} {p' : Tmp} (h : fn.results = #[.cell p' 25]) (tmps : Array Value) (W : World) (b : Nat) {v c n : Int} {A : Option Addr} {m p : Nat} {t : TypeId} (hp : tmps.getD p' undef = .pointer (some ⟨b, 0, none⟩)) (L : Sp.Blk W b t #[.slice A m p, .int .i64 v, .int .i64 c, .int .i64 n]) :
    (results fn tmps).run Try.prog W = .ok (.agg #[.slice A m p, .int .i64 v, .int .i64 c, .int .i64 n]) W :=
  results_cell_row h tmps W b t #[.slice A m p, .int .i64 v, .int .i64 c, .int .i64 n] (0, 0) _ hp L Try.underlying25 rfl info_p
theorem res_p2 {fn : Func} {p' q' : Tmp} (h : fn.results = #[.cell p' 25, .tmp q']) (tmps : Array Value) (W : World) (b : Nat) {v c n : Int} {A : Option Addr} {m p : Nat} {t : TypeId} {y : Value} (hp : tmps.getD p' undef = .pointer (some ⟨b, 0, none⟩)) (hq : tmps.getD q' undef = y) (L : Sp.Blk W b t #[.slice A m p, .int .i64 v, .int .i64 c, .int .i64 n]) :
    (results fn tmps).run Try.prog W = .ok (.tuple #[.agg #[.slice A m p, .int .i64 v, .int .i64 c, .int .i64 n], y]) W := by
  have hp' : tmps[p']?.getD undef = .pointer (some ⟨b, 0, none⟩) := by simpa using hp
  have hq' : tmps[q']?.getD undef = y := by simpa using hq
  have h1 : (loadVar 25 ⟨b, 0, none⟩).run Try.prog W = .ok (.agg #[.slice A m p, .int .i64 v, .int .i64 c, .int .i64 n]) W := run_loadVar_row W b t 25 #[.slice A m p, .int .i64 v, .int .i64 c, .int .i64 n] (0, 0) _ L Try.underlying25 rfl info_p
  simp [results, h, hp', hq', asAddr, h1]
set_option maxHeartbeats 1000000 in
theorem ridle_any (w : World) : Calls Try.prog 9 #[] w fun e w' => e = .returned (.agg (sc idle none 0)) ∧ Below w.heap.size w w' := by
  go_enter Try.func9, Try.ntmps9
  go_wp2_with fail
  refine bodyPost_ret (res_r1 rfl _ _ _ rfl (Sp.Blk.new _ _ _)) rfl ?_
  exact ⟨rfl, below1 _ _⟩
/-- What one of the document's calls tells. -/
inductive Out (w : World) (o : Option St) (e : Ending) (w' : World) : Prop where
  | mk (A' : Option Addr) (p' : Nat) (he : e = .returned (.tuple #[.agg (sc (st o) A' p'), .int .i64 (er o)])) (hv : VR w' A' (st o).t.length (iv (st o).t)) (hb : Below w.heap.size w w') (hf : ∀ a, A' = some a → w.heap.size ≤ a.block)
/-- Readable numbers, where another block is written. -/
theorem vr_far {w : World} {A : Option Addr} {n : Nat} {V : List Value} (h : VR w A n V) (b : Nat) (hb : ∀ a, A = some a → a.block ≠ b) (cs : Array Value) : VR (w.setRow b cs) A n V :=
  ⟨h.len, fun h0 => by
    obtain ⟨g, o, rfl, hc⟩ := h.c h0
    refine ⟨g, o, rfl, fun i v hi => ?_⟩
    have := hc i v hi
    unfold World.cell? at this ⊢
    simp only at this ⊢
    rw [setRow_other w b g cs (fun e => hb _ rfl e)]
    exact this⟩
theorem row_row (w : World) (g : Nat) (c1 c2 : Array Value) : (w.setRow g c1).setRow g c2 = w.setRow g c2 := by
  unfold World.setRow
  congr 1
  apply Array.ext_getElem?
  intro i
  rw [Array.getElem?_modify, Array.getElem?_modify, Array.getElem?_modify]
  split
  · cases w.heap[i]? with
    | none => rfl
    | some o => cases o <;> rfl
  · rfl
theorem set4 {w : World} {b : Nat} {T : TypeId} {a0 a1 a2 a3 : Value} (h : Sp.Blk w b T #[a0, a1, a2, a3]) (x0 x1 x2 x3 : Value) : (((w.setCell ⟨b, 0, none⟩ x0).setCell ⟨b, 1, none⟩ x1).setCell ⟨b, 2, none⟩ x2).setCell ⟨b, 3, none⟩ x3 = w.setRow b #[x0, x1, x2, x3] := by
  have h1 : Sp.Blk (w.setRow b #[x0, a1, a2, a3]) b T #[x0, a1, a2, a3] := h.row _
  have h2 : Sp.Blk (w.setRow b #[x0, x1, a2, a3]) b T #[x0, x1, a2, a3] := h.row _
  have h3 : Sp.Blk (w.setRow b #[x0, x1, x2, a3]) b T #[x0, x1, x2, a3] := h.row _
  rw [show w.setCell ⟨b, 0, none⟩ x0 = w.setRow b #[x0, a1, a2, a3] from set_row h 0 x0,
    show (w.setRow b #[x0, a1, a2, a3]).setCell ⟨b, 1, none⟩ x1 = w.setRow b #[x0, x1, a2, a3] from (set_row h1 1 x1).trans (row_row _ _ _ _),
    show (w.setRow b #[x0, x1, a2, a3]).setCell ⟨b, 2, none⟩ x2 = w.setRow b #[x0, x1, x2, a3] from (set_row h2 2 x2).trans (row_row _ _ _ _),
    show (w.setRow b #[x0, x1, x2, a3]).setCell ⟨b, 3, none⟩ x3 = w.setRow b #[x0, x1, x2, x3] from (set_row h3 3 x3).trans (row_row _ _ _ _)]
theorem row_fresh {W w : World} {items : List Sp.Item} {k : Nat} {T : TypeId} {sz : Nat} {A : Option Addr} {n p : Nat} {xs : List Value} (h : Sp.Sep W w items) (hk : items[k]? = some (rowS T sz (.slice A n p) n xs)) : ∀ a, A = some a → W.heap.size ≤ a.block := by
  obtain ⟨G, ⟨hrow, hG⟩, hW, _, _⟩ := h.at_ k hk
  intro a e
  subst e
  rcases hrow.2 with ⟨e, _⟩ | ⟨g, cap, cur, e, _⟩
  · cases e
  · injection e with e1 e2 e3
    injection e1 with e1
    subst e1
    exact hW g ((hG g).2 (by simp [Value.ownBlock]))
set_option maxHeartbeats 1000000 in
theorem rgiven_any (s : St) (A : Option Addr) (p : Nat) (w : World) (hA : VR w A s.t.length (iv s.t)) (hn : s.t.length < 1000) :
    Calls Try.prog 31 #[.agg (sc s A p)] w (Out w (gives s)) := by
  obtain ⟨b0, hb0⟩ : ∃ b0, w.heap.size = b0 := ⟨_, rfl⟩
  obtain ⟨W, hW⟩ : ∃ W, (w.alloc (.cells (sc s A p) 27)).alloc (.cells #[.slice none 0 0, .int .i64 0, .int .i64 0, .int .i64 0] 27) = W := ⟨_, rfl⟩
  have HB := Lib.hid (show Below w.heap.size w W by rw [← hW]; exact (below1 _ _).alloc (by simp) _)
  have BS : Hid (Sp.Blk W b0 27 (sc s A p)) := Lib.hid (by rw [← hW, ← hb0]; exact (Sp.Blk.new _ _ _).later (below1 _ _))
  have BR : Hid (Sp.Blk W (b0 + 1) 27 #[.slice none 0 0, .int .i64 0, .int .i64 0, .int .i64 0]) := Lib.hid (by rw [← hW, ← hb0]; exact Sp.Blk.at_ _ _ _ (by simp))
  have HV := Lib.hid (hA.later HB.out)
  have HZ := Lib.hid hb0
  have CN := Lib.hid (fun X => rnext_any s A p false X)
  have HN := Lib.hid hn
  obtain ⟨x, hx⟩ : ∃ x, next s false = x := ⟨_, rfl⟩
  have HX := Lib.hid hx
  rw [hx] at CN
  clear hA hn hx
  have b00 := BS.out
  go_enter Try.func31, Try.ntmps31
  go_upto_region 1 with fail
  clear hW hb0
  by_cases h4 : x = 4
  · subst h4
    have hz : gives s = some ⟨s.t, -1, 0, 0⟩ := by unfold gives; rw [if_pos HX.out]
    have HQ := Lib.hid hz
    clear hz
    go_upto_region 3 with (first
      | (with_reducible refine load_r rfl (.tmp 1) rfl b0 rfl b00 ?_)
      | (go_at_call 17; refine (CN.out _).mono ?_; rintro e1 w1 ⟨rfl, hb1⟩; have H1 := Lib.hid hb1; clear hb1))
    obtain ⟨A5, p5, W5, hrun, S5⟩ := run_app_new (c := p) (HV.out.later H1.out) HN.out
    have H5 := Lib.hid S5
    have b2 := BR.out.later (H1.out.trans (S5.below.mono H1.out.size))
    have b1 := (BS.out.later H1.out).later (below1 _ (.cells #[] 3))
    have c0 := b1.cell 0
    clear S5 b1
    simp only [List.getElem?_toArray, List.getElem?_cons_zero] at c0
    go_wp2_with (first
      | (at_builtin; refine wp_push 23 rfl (.tmp 8) (.tmp 10) rfl rfl _ _ rfl rfl hrun ?_)
      | (with_reducible refine store_r rfl (.tmp 2) (.tmp 12) rfl (b0 + 1) rfl rfl b2 ?_))
    refine bodyPost_ret (res_r2 rfl _ _ _ rfl rfl (b2.row _)) rfl ?_
    have HW5 : Below w.heap.size w W5 := HB.out.trans ((H1.out.trans (H5.out.below.mono H1.out.size)).mono HB.out.size)
    refine ⟨A5, p5, by rw [HQ.out]; rfl, ?_, below_row HW5 (by have := HZ.out; omega) _, fun a ha => by have h1 : w1.heap.size ≤ _ := row_fresh H5.out (k := 0) rfl a ha; have := H1.out.size; have := HB.out.size; omega⟩
    rw [HQ.out]
    exact vr_far (VR.of_row H5.out (k := 0) rfl (by rw [iv_len])) _ (fun a ha => by have := row_fresh H5.out (k := 0) rfl a ha; have := BR.out.lt; have := H1.out.size; omega) _
  · have h5 : (x != 4) = true := by simp; exact h4
    have hz : gives s = none := by unfold gives; rw [if_neg (by rw [HX.out]; exact h4)]
    have HQ := Lib.hid hz
    clear hz
    go_upto_region 2 with (first
      | (with_reducible refine load_r rfl (.tmp 1) rfl b0 rfl b00 ?_)
      | (go_at_call 17; refine (CN.out _).mono ?_; rintro e1 w1 ⟨rfl, hb1⟩; have H1 := Lib.hid hb1; clear hb1))
    have b2 := BR.out.later H1.out
    go_wp2_with (with_reducible refine store_r rfl (.tmp 2) (.tmp 7) rfl (b0 + 1) rfl rfl b2 ?_)
    refine bodyPost_ret (res_r2 rfl _ _ _ rfl rfl (b2.row _)) rfl ?_
    exact ⟨none, 0, by rw [HQ.out]; rfl, by rw [HQ.out]; exact VR.nil _ _, below_row (HB.out.trans (H1.out.mono HB.out.size)) (by have := HZ.out; omega) _, fun a ha => by cases ha⟩
set_option maxHeartbeats 1000000 in
theorem rseen_any (s : St) (A : Option Addr) (p : Nat) (w : World) (hA : VR w A s.t.length (iv s.t)) (hn : s.t.length < 1000) (HR : Right s) :
    Calls Try.prog 28 #[.agg (sc s A p)] w (Out w (sees s)) := by
  obtain ⟨b0, hb0⟩ : ∃ b0, w.heap.size = b0 := ⟨_, rfl⟩
  obtain ⟨W, hW⟩ : ∃ W, (w.alloc (.cells (sc s A p) 27)).alloc (.cells #[.slice none 0 0, .int .i64 0, .int .i64 0, .int .i64 0] 27) = W := ⟨_, rfl⟩
  have HB := Lib.hid (show Below w.heap.size w W by rw [← hW]; exact (below1 _ _).alloc (by simp) _)
  have BS : Hid (Sp.Blk W b0 27 (sc s A p)) := Lib.hid (by rw [← hW, ← hb0]; exact (Sp.Blk.new _ _ _).later (below1 _ _))
  have BR : Hid (Sp.Blk W (b0 + 1) 27 #[.slice none 0 0, .int .i64 0, .int .i64 0, .int .i64 0]) := Lib.hid (by rw [← hW, ← hb0]; exact Sp.Blk.at_ _ _ _ (by simp))
  have HV := Lib.hid (hA.later HB.out)
  have HZ := Lib.hid hb0
  have CN := Lib.hid (fun X => rnext_any s A p false X)
  have HN := Lib.hid hn
  obtain ⟨x, hx⟩ : ∃ x, next s false = x := ⟨_, rfl⟩
  have HX := Lib.hid hx
  rw [hx] at CN
  clear hA hn hx
  have b00 := BS.out
  have wc : IntKind.i64.wrap (s.c + 1) = s.c + 1 := IntWalk.i64_in _ (by have := HR.v; unfold VicOk at this; omega)
  clear HR
  go_enter Try.func28, Try.ntmps28
  go_upto_region 1 with fail
  clear hW hb0
  by_cases h4 : x = 3
  · subst h4
    have hz : sees s = some ⟨s.t, s.v, s.c + 1, s.n⟩ := by unfold sees; rw [if_pos HX.out]
    have HQ := Lib.hid hz
    clear hz
    go_upto_region 3 with (first
      | (with_reducible refine load_r rfl (.tmp 1) rfl b0 rfl b00 ?_)
      | (go_at_call 17; refine (CN.out _).mono ?_; rintro e1 w1 ⟨rfl, hb1⟩; have H1 := Lib.hid hb1; clear hb1))
    obtain ⟨A5, p5, W5, hrun, S5⟩ := run_app_new (X := w1.drew) (c := p) (HV.out.later H1.out.drew) HN.out
    have H5 := Lib.hid S5
    have b1 := BS.out.later H1.out
    have hd : Below w1.heap.size w1 W5 := (Below.refl w1.heap.size w1).drew.trans S5.below
    have HD := Lib.hid hd
    have b5 := b1.later hd
    have b2 := BR.out.later (H1.out.trans (hd.mono H1.out.size))
    have c0 := (st_cells b1).1
    have c1 := (st_cells b1).2.1
    have c2 := (st_cells b1).2.2.1
    have c3 := (st_cells b1).2.2.2
    have b3 := b1.later (below1 _ (.cells #[] 3))
    have g0 := (st_cells b3).1
    have g1 := (st_cells b3).2.1
    have g2 := (st_cells b3).2.2.1
    have g3 := (st_cells b3).2.2.2
    have d0 := (st_cells b5).1
    have d1 := (st_cells b5).2.1
    have d2 := (st_cells b5).2.2.1
    have d3 := (st_cells b5).2.2.2
    have e0 : W5.cell? ⟨b0 + 1, 0, none⟩ = _ := b2.cell 0
    have e1 : W5.cell? ⟨b0 + 1, 1, none⟩ = _ := b2.cell 1
    have e2 : W5.cell? ⟨b0 + 1, 2, none⟩ = _ := b2.cell 2
    have e3 : W5.cell? ⟨b0 + 1, 3, none⟩ = _ := b2.cell 3
    have f0 : W5.frozen? ⟨b0 + 1, 0, none⟩ = _ := b2.frozen 0
    have f1 : W5.frozen? ⟨b0 + 1, 1, none⟩ = _ := b2.frozen 1
    have f2 : W5.frozen? ⟨b0 + 1, 2, none⟩ = _ := b2.frozen 2
    have f3 : W5.frozen? ⟨b0 + 1, 3, none⟩ = _ := b2.frozen 3
    change (Builtin.append_ #[23, 23] 23 #[.slice (some ⟨w1.heap.size, 0, none⟩) 0 0, .slice A s.t.length p]).run Try.prog ((w1.alloc (.cells #[] 3)).drew) = _ at hrun
    clear S5 b1 b5 b3 hd
    go_region_held3 (fun v => v.cell? ⟨b0, 0, none⟩ = some (.slice A s.t.length p) ∧ v.cell? ⟨b0, 1, none⟩ = some (.int .i64 s.v) ∧ v.cell? ⟨b0, 2, none⟩ = some (.int .i64 s.c) ∧ v.cell? ⟨b0, 3, none⟩ = some (.int .i64 s.n)) (first | go_keep | exact ⟨c0, c1, c2, c3⟩ | exact ⟨d0, d1, d2, d3⟩ | exact ⟨g0, g1, g2, g3⟩) ((refine step_push (by rfl) (.tmp 8) (.tmp 10) (by rfl) (by rfl) (.slice (some ⟨w1.heap.size, 0, none⟩) 0 0) (.slice A s.t.length p) (by simp [Act.eval]) (by simp [Act.eval]) hrun ?_))
    rw [set4 b2]
    go_wp2_with fail
    refine bodyPost_ret (res_r2 rfl _ _ _ rfl rfl (b2.row _)) rfl ?_
    have HW5 : Below w.heap.size w W5 := HB.out.trans ((H1.out.trans (HD.out.mono H1.out.size)).mono HB.out.size)
    refine ⟨A5, p5, by rw [HQ.out]; rfl, ?_, below_row HW5 (by have := HZ.out; omega) _, fun a ha => by have h1 : w1.heap.size ≤ _ := row_fresh H5.out (k := 0) rfl a ha; have := H1.out.size; have := HB.out.size; omega⟩
    rw [HQ.out]
    exact vr_far (VR.of_row H5.out (k := 0) rfl (by rw [iv_len])) _ (fun a ha => by have h1 : w1.heap.size ≤ _ := row_fresh H5.out (k := 0) rfl a ha; have := BR.out.lt; have := H1.out.size; omega) _
  · have h5 : (x != 3) = true := by simp; exact h4
    have hz : sees s = none := by unfold sees; rw [if_neg (by rw [HX.out]; exact h4)]
    have HQ := Lib.hid hz
    clear hz
    go_upto_region 2 with (first
      | (with_reducible refine load_r rfl (.tmp 1) rfl b0 rfl b00 ?_)
      | (go_at_call 17; refine (CN.out _).mono ?_; rintro e1 w1 ⟨rfl, hb1⟩; have H1 := Lib.hid hb1; clear hb1))
    have b2 := BR.out.later H1.out
    go_wp2_with (with_reducible refine store_r rfl (.tmp 2) (.tmp 7) rfl (b0 + 1) rfl rfl b2 ?_)
    refine bodyPost_ret (res_r2 rfl _ _ _ rfl rfl (b2.row _)) rfl ?_
    exact ⟨none, 0, by rw [HQ.out]; rfl, by rw [HQ.out]; exact VR.nil _ _, below_row (HB.out.trans (H1.out.mono HB.out.size)) (by have := HZ.out; omega) _, fun a ha => by cases ha⟩
set_option maxHeartbeats 1000000 in
theorem rbegin_any (s : St) (A : Option Addr) (p : Nat) (B : Option Addr) (m c : Nat) (l : List Int) (w : World) (hA : VR w A s.t.length (iv s.t)) (hn : s.t.length < 1000) (hB : VR w B m (iv l)) (hm : m < 1000) (HR : Right s) :
    Calls Try.prog 29 #[.agg (sc s A p), .slice B m c] w (Out w (begins s l)) := by
  obtain ⟨b0, hb0⟩ : ∃ b0, w.heap.size = b0 := ⟨_, rfl⟩
  obtain ⟨W, hW⟩ : ∃ W, (w.alloc (.cells (sc s A p) 27)).alloc (.cells #[.slice none 0 0, .int .i64 0, .int .i64 0, .int .i64 0] 27) = W := ⟨_, rfl⟩
  have HB := Lib.hid (show Below w.heap.size w W by rw [← hW]; exact (below1 _ _).alloc (by simp) _)
  have BS : Hid (Sp.Blk W b0 27 (sc s A p)) := Lib.hid (by rw [← hW, ← hb0]; exact (Sp.Blk.new _ _ _).later (below1 _ _))
  have BR : Hid (Sp.Blk W (b0 + 1) 27 #[.slice none 0 0, .int .i64 0, .int .i64 0, .int .i64 0]) := Lib.hid (by rw [← hW, ← hb0]; exact Sp.Blk.at_ _ _ _ (by simp))
  have HV := Lib.hid (hA.later HB.out)
  have HZ := Lib.hid hb0
  have hml : m = l.length := by have := hB.len; rwa [iv_len] at this
  subst hml
  have HM := Lib.hid hm
  have HVB := Lib.hid (hB.later HB.out)
  go_enter Try.func29, Try.ntmps29
  go_upto_region 1 with fail
  clear hW hb0 hA hn hB hm
  obtain ⟨A5, p5, W5, hrun, S5⟩ := run_app_new (c := c) HVB.out HM.out
  have H5 := Lib.hid S5
  have HF : Hid (∀ a, A5 = some a → W.heap.size ≤ a.block) := Lib.hid (fun a ha => row_fresh S5 (k := 0) rfl a ha)
  have HP := Lib.hid (rows_room S5 (k := 0) rfl)
  clear S5
  go_upto_region 2 with (at_builtin; refine wp_push 23 rfl (.tmp 7) (.tmp 8) rfl rfl _ _ rfl rfl hrun ?_)
  have B6 : Hid (Sp.Blk (W5.alloc (.cells (sc ⟨l, -1, 0, 0⟩ A5 p5) 27)) W5.heap.size 27 (sc ⟨l, -1, 0, 0⟩ A5 p5)) := Lib.hid (Sp.Blk.new _ _ _)
  have H6 : Hid (Below W.heap.size W (W5.alloc (.cells (sc ⟨l, -1, 0, 0⟩ A5 p5) 27))) := Lib.hid (H5.out.below.alloc (by have := H5.out.below.size; omega) _)
  have V6 : Hid (VR (W5.alloc (.cells (sc ⟨l, -1, 0, 0⟩ A5 p5) 27)) A5 l.length (iv l)) := Lib.hid ((VR.of_row H5.out (k := 0) rfl (by rw [iv_len])).later (below1 _ _))
  change Code.wp _ _ _ _ (W5.alloc (.cells (sc ⟨l, -1, 0, 0⟩ A5 p5) 27))
  clear hrun H5
  generalize W5.alloc (.cells (sc ⟨l, -1, 0, 0⟩ A5 p5) 27) = W6 at *
  generalize W5.heap.size = n6 at *
  clear W5
  have CR : Hid (∀ X, Below W6.heap.size W6 X → Calls Try.prog 20 #[.agg (sc ⟨l, -1, 0, 0⟩ A5 p5)] X fun e w' => e = .returned (.bool (decide (Right ⟨l, -1, 0, 0⟩))) ∧ Below X.heap.size X w') := Lib.hid (fun X hX => rright_any ⟨l, -1, 0, 0⟩ A5 p5 X (V6.out.later hX) (by have := HM.out; simp only; omega) HP.out)
  have m0 := (st_cells B6.out).1
  have m1 := (st_cells B6.out).2.1
  have m2 := (st_cells B6.out).2.2.1
  have m3 := (st_cells B6.out).2.2.2
  have b2 := BR.out.later H6.out
  have HW6 := Lib.hid (HB.out.trans (H6.out.mono HB.out.size))
  have c0 := (st_cells (BS.out.later H6.out)).1
  have c1 := (st_cells (BS.out.later H6.out)).2.1
  by_cases k1 : 0 ≤ s.v
  · have d1 : decide (0 ≤ s.v) = true := decide_eq_true k1
    have HQ : Hid (begins s l = none) := Lib.hid (by unfold begins; rw [if_pos (.inl k1)])
    clear k1
    go_wp2_with (first
      | fail
      | (with_reducible refine store_r rfl (.tmp 4) (.tmp 25) rfl (b0 + 1) rfl rfl b2 ?_))
    refine bodyPost_ret (res_r2 rfl _ _ _ rfl rfl (b2.row _)) rfl ?_
    exact ⟨none, 0, by rw [HQ.out]; rfl, by rw [HQ.out]; exact VR.nil _ _, below_row HW6.out (by have := HZ.out; omega) _, fun a ha => by cases ha⟩
  · have d1 : decide (0 ≤ s.v) = false := decide_eq_false k1
    by_cases k2 : s.t = []
    · have d0 : s.t.length = 0 := by rw [k2]; rfl
      rw [d0] at c0
      by_cases k3 : Right ⟨l, -1, 0, 0⟩
      · have HQ : Hid (begins s l = some ⟨l, -1, 0, 0⟩) := Lib.hid (by unfold begins; rw [if_neg (by rintro (h | h | h); exact k1 h; exact h k2; exact h k3)])
        rw [decide_eq_true k3] at CR
        clear k1 k2 k3 d0
        go_upto_region 4 with (go_at_call 20; refine (CR.out _ (Below.refl _ _)).mono ?_; rintro e1 w1 ⟨rfl, hb1⟩; have H1 := Lib.hid hb1; clear hb1)
        have b7 := B6.out.later H1.out
        have b3 := b2.later H1.out
        go_wp2_with (first
          | (with_reducible refine load_r rfl (.tmp 6) rfl n6 rfl b7 ?_)
          | (with_reducible refine store_r rfl (.tmp 4) (.tmp 26) rfl (b0 + 1) rfl rfl b3 ?_))
        refine bodyPost_ret (res_r2 rfl _ _ _ rfl rfl (b3.row _)) rfl ?_
        refine ⟨A5, p5, by rw [HQ.out]; rfl, ?_, below_row (HW6.out.trans (H1.out.mono HW6.out.size)) (by have := HZ.out; omega) _, fun a ha => Nat.le_trans HB.out.size (HF.out a ha)⟩
        rw [HQ.out]
        exact vr_far (V6.out.later H1.out) _ (fun a ha => by have := HF.out a ha; have := BR.out.lt; omega) _
      · have HQ : Hid (begins s l = none) := Lib.hid (by unfold begins; rw [if_pos (.inr (.inr k3))])
        rw [decide_eq_false k3] at CR
        clear k1 k2 k3 d0
        go_upto_region 3 with (go_at_call 20; refine (CR.out _ (Below.refl _ _)).mono ?_; rintro e1 w1 ⟨rfl, hb1⟩; have H1 := Lib.hid hb1; clear hb1)
        have b3 := b2.later H1.out
        go_wp2_with (with_reducible refine store_r rfl (.tmp 4) (.tmp 25) rfl (b0 + 1) rfl rfl b3 ?_)
        refine bodyPost_ret (res_r2 rfl _ _ _ rfl rfl (b3.row _)) rfl ?_
        exact ⟨none, 0, by rw [HQ.out]; rfl, by rw [HQ.out]; exact VR.nil _ _, below_row (HW6.out.trans (H1.out.mono HW6.out.size)) (by have := HZ.out; omega) _, fun a ha => by cases ha⟩
    · have h4 : 0 < s.t.length := List.length_pos_iff.2 k2
      have d4 : decide (0 < s.t.length) = true := decide_eq_true h4
      have d5 : decide ((0 : Int) < (s.t.length : Int)) = true := decide_eq_true (by omega)
      have HQ : Hid (begins s l = none) := Lib.hid (by unfold begins; rw [if_pos (.inr (.inl k2))])
      clear k1 k2
      go_wp2_with (first
        | fail
        | (with_reducible refine store_r rfl (.tmp 4) (.tmp 25) rfl (b0 + 1) rfl rfl b2 ?_))
      refine bodyPost_ret (res_r2 rfl _ _ _ rfl rfl (b2.row _)) rfl ?_
      exact ⟨none, 0, by rw [HQ.out]; rfl, by rw [HQ.out]; exact VR.nil _ _, below_row HW6.out (by have := HZ.out; omega) _, fun a ha => by cases ha⟩
end Go.Proofs.Ytfhdckmpodmejaa.Sw
