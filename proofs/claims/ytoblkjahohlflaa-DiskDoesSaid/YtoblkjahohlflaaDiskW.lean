/- Contract of Write of package disk over a disk that lies in memory. -/
import Derived.Test.YtoblkjahohlflaaDiskC
import Derived.Lib.BufferWrite
import Derived.RegionTactic
namespace Go.Proofs.Ytoblkjahohlflaa
open Go.RowKit Go.MapKept Go.Lib
set_option linter.unusedVariables false

theorem write_arg {w : World} {d : Nat} {F : Nat → Prop} {s : St} (D : DiskAt w d F s) (i : Int) (x : ByteArray) (hi : ¬ s.has i) :
    Calls Try.prog 14 #[.pointer (some ⟨d, 0, none⟩), .int .i64 i, .string x] w fun e w' => e = .returned (.int .i64 1) ∧ w = w' := by
  go_enter Try.func14, Try.ntmps14
  go_wp2_with fail
  refine (has_no D i hi).mono ?_
  rintro e w' ⟨rfl, rfl⟩
  go_wp2_with fail
  go_ret
  exact ⟨rfl, rfl⟩

theorem write_form {w : World} {d : Nat} {F : Nat → Prop} {s : St} (D : DiskAt w d F s) (i : Int) (x : ByteArray) (hi : s.has i) (hx : x.size ≠ 128) :
    Calls Try.prog 14 #[.pointer (some ⟨d, 0, none⟩), .int .i64 i, .string x] w fun e w' => e = .returned (.int .i64 5) ∧ w = w' := by
  have hb : ((x.size : Int) != 128) = true := by rw [bne_iff_ne]; omega
  go_enter Try.func14, Try.ntmps14
  go_wp2_with fail
  refine (has_yes D i hi).mono ?_
  rintro e w' ⟨rfl, rfl⟩
  go_wp2_with fail
  go_ret
  exact ⟨rfl, rfl⟩

theorem write_dead {w : World} {d : Nat} {F : Nat → Prop} {s : St} (D : DiskAt w d F s) (i : Int) (x : ByteArray) (hi : s.has i) (hx : x.size = 128) (hd : s.dead) :
    Calls Try.prog 14 #[.pointer (some ⟨d, 0, none⟩), .int .i64 i, .string x] w fun e w' => e = .returned (.int .i64 9) ∧ w = w' := by
  have hb : ((x.size : Int) != 128) = false := by rw [hx]; rfl
  have HX := Lib.hid hx
  clear hx
  go_enter Try.func14, Try.ntmps14
  go_wp2_with fail
  refine (has_yes D i hi).mono ?_
  rintro e w' ⟨rfl, rfl⟩
  go_wp2_with fail
  refine (usedUp_yes D hd).mono ?_
  rintro e w' ⟨rfl, rfl⟩
  go_wp2_with fail
  go_ret
  exact ⟨rfl, rfl⟩

theorem built_wr (i : Int) : (Try.prog.built 64 [(0, .int .i64 i)]) = some (wrA (i, zeroS)) := by kernel_rfl

theorem build_wr {ops : Array Oper} {rest : List Oper} {o : Oper} {a : Act} {w : World} {Q : Exit → Act → World → Prop} (hg : o.guard = none) (x : Operand) (ho : o.op = .build 64 #[(0, x)]) (i : Int) (hx : a.eval x = .int .i64 i)
    (h : wpList Try.prog ops Q rest (a.put o.dst (.agg (wrA (i, zeroS)))) w) : wpList Try.prog ops Q (o :: rest) a w := by
  have e : Try.prog.built 64 ((#[(0, x)] : Array (Nat × Operand)).map fun (i, x) => (i, a.eval x)).toList = some (wrA (i, zeroS)) := by
    simp only [List.map_toArray, List.map_cons, List.map_nil, hx]
    exact built_wr i
  refine wpList_build hg _ _ ho (by rw [e]; rfl) ?_
  rw [e]
  exact h

/-- 'copy(w.data[:], s)'. -/
theorem run_copy_str (w : World) (ty : TypeId) (B c2 : Nat) (t : TypeId) (i : Int) (x y : ByteArray) (hB : Blk w B t (wrA (i, y))) (hy : y.size = 128) (hx : x.size = 128) :
    (Builtin.copy_ #[68, 9] ty #[.slice (some ⟨B, 1, none⟩) 128 c2, .string x]).run Try.prog w = .ok (goInt x.size) (w.setRow B (wrA (i, x))) := by
  have h1 := run_copy_row_string (P := Try.prog) w 68 9 ty 5 B 1 128 c2 x (wrA (i, y)) t Try.underlying68 (by kernel_rfl) hB (by omega) (by rw [wrA_size]; simp only [hy]; omega)
  have e : ((wrA (i, y)).toList.take 1 ++ byteCells x.data.toList ++ (wrA (i, y)).toList.drop (1 + x.size)).toArray = wrA (i, x) := by
    have hl : (wrL (i, y)).length = 129 := by rw [wrL_len, hy]
    have : (wrA (i, y)).toList = wrL (i, y) := rfl
    rw [this, List.drop_eq_nil_of_le (by omega), List.append_nil]
    rfl
  rw [e] at h1
  exact h1
theorem copy_str {ops : Array Oper} {rest : List Oper} {o : Oper} {a : Act} {w : World} {Q : Exit → Act → World → Prop} (hg : o.guard = none) (dd ss : Operand)
    (ho : o.op = .call { callee := .builtin .copy, args := #[dd, ss], argTypes := #[68, 9] }) (B c2 : Nat) (hd : a.eval dd = .slice (some ⟨B, 1, none⟩) 128 c2) (x : ByteArray) (hs : a.eval ss = .string x)
    (t : TypeId) (i : Int) (y : ByteArray) (hB : Blk w B t (wrA (i, y))) (hy : y.size = 128) (hx : x.size = 128)
    (h : wpList Try.prog ops Q rest (a.put o.dst (goInt x.size)) (w.setRow B (wrA (i, x)))) : wpList Try.prog ops Q (o :: rest) a w := by
  refine wpList_plain hg fun K' hK' => ?_
  have hrun := run_copy_str w o.type B c2 t i x y hB hy hx
  unfold Oper.wp
  simp only [execOp, ho, resolve, invoke, builtin, Sem.run_bind, Sem.run_pure, Result.andThen_ok, List.map_toArray, List.map_cons, List.map_nil, hd, hs, hrun]
  exact hK' _ _ h

theorem fold_set : ∀ (l : List Value) (k : Nat) (cs : Array Value), k + l.length = cs.size →
    (l.zipIdx k).foldl (fun cs (p : Value × Nat) => cs.setIfInBounds (0 + p.2) p.1) cs = (cs.toList.take k ++ l).toArray
  | [], k, cs, h => by
    simp only [List.zipIdx_nil, List.foldl_nil, List.append_nil]
    rw [List.take_of_length_le (by simp only [Array.length_toList]; simp at h; omega)]
  | v :: r, k, cs, h => by
    rw [List.zipIdx_cons, List.foldl_cons, fold_set r (k + 1) _ (by simp at h ⊢; omega)]
    congr 1
    rw [Nat.zero_add, Array.toList_setIfInBounds]
    have hk : k < cs.toList.length := by simp at h ⊢; omega
    rw [List.take_succ_eq_append_getElem (by simpa using hk)]
    simp [List.take_set_of_le]

theorem run_one_wr (w : World) (p : Int × ByteArray) (hp : p.2.size = 128) :
    (Instr.buildSlice 44 1 #[(0, .agg (wrA p))]).run Try.prog w = .ok (.slice (some ⟨w.heap.size, 0, none⟩) 1 1) (w.alloc (.cells (wrA p) 64)) := by
  obtain ⟨hz, hs⟩ := zero_wr
  have hsz : (sizeOf 64).run Try.prog w = .ok 129 w := by
    cases hq : Try.prog.info? 64 with
    | none => simp [hq] at hs
    | some i =>
      have : i.size = 129 := by simpa [hq] using hs
      simp [sizeOf, typeInfo, hq, this]
  have hw := wrA_size p
  rw [hp] at hw
  have hf : ∀ (Z : Array Value), Z.size = 129 → Instr.fill (fun i => some (i * 129, 129)) Z [(0, .agg (wrA p))] = some (wrA p) := by
    intro Z hZ
    have e : (wrA p).zipIdx.foldl (fun cs (q : Value × Nat) => cs.setIfInBounds (0 + q.2) q.1) Z = wrA p := by
      rw [← Array.foldl_toList, Array.toList_zipIdx]
      exact (fold_set (wrL p) 0 Z (by rw [Nat.zero_add, wrL_len, hp, hZ])).trans (by simp [wrA])
    have hc : (Value.agg (wrA p)).cells = wrA p := rfl
    rw [Instr.fill]
    simp only [hc, hw, hZ, Nat.zero_mul, e, Instr.fill]
    rfl
  have h1 := hf ((Array.range (1 * 129)).map ((wrA (0, zeroS))[· % (wrA (0, zeroS)).size]!)) (by simp)
  have hc0 : (Value.agg (wrA (0, zeroS))).cells = wrA (0, zeroS) := rfl
  unfold Instr.buildSlice
  simp only [Sem.run_bind, run_underlying Try.underlying44, Result.andThen_ok, hsz]
  simp only [show ¬ (1 * 129 > 2 ^ 24) by omega, show ¬ (1 * 129 = 0) by omega, if_false, Sem.run_bind, Sem.run_pure, Result.andThen_ok, hz, hc0, h1]
  simp [newRow]

section
variable {P : Program} {ops : Array Oper} {o : Oper} {a : Act} {w w' : World} {K : Act → World → Prop} {Q : Exit → Act → World → Prop} {E : Prop}
theorem step_run (hgd : o.guard = none) (v : Value) (hrun : (execOp a.eval o).run P w = .ok (.value v) w') (h : K (a.put o.dst v) w') :
    if Region.wanted o (yielded ops a.tmps) = true then Oper.wp P o a w K Q else E := by
  have hw : Region.wanted o (yielded ops a.tmps) = true := by simp [Region.wanted, hgd]
  rw [if_pos hw]
  unfold Oper.wp
  rw [hrun]
  exact h
end

section
variable {ops : Array Oper} {o : Oper} {a : Act} {w w' : World} {K : Act → World → Prop} {Q : Exit → Act → World → Prop} {E : Prop}
theorem step_load_wr (hgd : o.guard = none) (x : Operand) (ho : o.op = .load 64 x) (b f : Nat) (hx : a.eval x = .pointer (some ⟨b, f, none⟩)) (p : Int × ByteArray) (hp : p.2.size = 128) (hr : w.rangeAt b f (wrL p))
    (h : K (a.put o.dst (.agg (wrA p))) w) : if Region.wanted o (yielded ops a.tmps) = true then Oper.wp Try.prog o a w K Q else E :=
  step_run hgd _ (by
    have := run_loadVar_mid (P := Try.prog) w b f 64 (wrL p) _ hr Try.underlying64 rfl (by rw [wrL_len, hp]; exact zero_wr.2)
    unfold execOp
    simp only [ho, hx, Instr.loadAt, Instr.sureAddr, Sem.run_bind, Sem.run_pure, Result.andThen_ok, this]
    rfl) h
theorem step_one_wr (hgd : o.guard = none) (x : Operand) (ho : o.op = .buildSlice 44 1 #[(0, x)]) (p : Int × ByteArray) (hx : a.eval x = .agg (wrA p)) (hp : p.2.size = 128)
    (h : K (a.put o.dst (.slice (some ⟨w.heap.size, 0, none⟩) 1 1)) (w.alloc (.cells (wrA p) 64))) : if Region.wanted o (yielded ops a.tmps) = true then Oper.wp Try.prog o a w K Q else E :=
  step_run hgd _ (by
    have := run_one_wr w p hp
    unfold execOp
    simp only [ho, List.map_toArray, List.map_cons, List.map_nil, hx, Sem.run_bind, Sem.run_pure, Result.andThen_ok, this]) h
theorem step_append (hgd : o.guard = none) (x y : Operand) (t : TypeId) (ho : o.op = .call { callee := .builtin .append, args := #[x, y], argTypes := #[t, t] }) (u v r : Value) (hx : a.eval x = u) (hy : a.eval y = v)
    (hrun : (Builtin.append_ #[t, t] o.type #[u, v]).run Try.prog w = .ok r w')
    (h : K (a.put o.dst r) w') : if Region.wanted o (yielded ops a.tmps) = true then Oper.wp Try.prog o a w K Q else E := by
  have hw : Region.wanted o (yielded ops a.tmps) = true := by simp [Region.wanted, hgd]
  rw [if_pos hw]
  unfold Oper.wp execOp
  simp only [ho, resolve, invoke, builtin, Sem.run_bind, Sem.run_pure, Result.andThen_ok, List.map_toArray, List.map_cons, List.map_nil, hx, hy, hrun]
  exact h
end

set_option maxHeartbeats 1000000 in
theorem write_yes {w : World} {d : Nat} {F : Nat → Prop} {s : St} (D : DiskAt w d F s) (i : Int) (x : ByteArray) (hi : s.has i) (hx : x.size = 128) (hd : ¬ s.dead) (hpl : s.pend.length < 1048576) :
    Calls Try.prog 14 #[.pointer (some ⟨d, 0, none⟩), .int .i64 i, .string x] w fun e w' => e = .returned (.int .i64 0) ∧ (∃ F', DiskAt w' d F' (s.write i x) ∧ Grew w F F') ∧ Only F w w' := by
  have hv := zero_wr.1
  have hb : ((x.size : Int) != 128) = false := by rw [hx]; rfl
  have HX := Lib.hid hx
  clear hx
  go_enter Try.func14, Try.ntmps14
  go_wp2_with fail
  refine (has_yes D i hi).mono ?_
  rintro e w' ⟨rfl, rfl⟩
  go_wp2_with fail
  refine (usedUp_no D hd).mono ?_
  rintro e w' ⟨rfl, rfl⟩
  go_wp2_with fail
  refine (use_any D hd).mono ?_
  rintro e w1 ⟨rfl, D1, O1⟩
  have B0 := Blk.new w1 64 (wrA (0, zeroS))
  have B1 := Blk.new w1 64 (wrA (i, zeroS))
  go_wp2_with (first
    | (with_reducible refine build_wr rfl (.tmp 26) rfl i rfl ?_)
    | (with_reducible refine store_wr rfl (.tmp 7) (.tmp 27) rfl w1.heap.size (i, zeroS) rfl rfl 64 (0, zeroS) B0 zeroS_size zeroS_size ?_; rw [World.setRow_alloc_new])
    | (with_reducible refine copy_str rfl (.tmp 29) (.tmp 30) rfl w1.heap.size 128 rfl x rfl 64 i zeroS B1 zeroS_size HX.out ?_; rw [World.setRow_alloc_new]))
  obtain ⟨h, l, v, D2⟩ := D1.alloc (.cells (wrA (i, x)) 64)
  have BB := Blk.new w1 64 (wrA (i, x))
  have O2 : Only F w (w1.alloc (.cells (wrA (i, x)) 64)) := O1.alloc _
  have hBF : ∀ b, F b → b < w1.heap.size := D1.lt
  have hwB : w.heap.size ≤ w1.heap.size := O1.size
  clear B0 B1 D1 O1
  generalize w1.alloc (.cells (wrA (i, x)) 64) = W at *
  generalize w1.heap.size = B at *
  obtain ⟨A, c, rfl⟩ := own_slice D2.own
  have c4 := D2.c4
  have c5 := D2.c5
  obtain ⟨fl, ml, okl⟩ := D2.last
  refine wp_region_still_tail 10 (by kernel_rfl) (by kernel_rfl) ?_
  simp only [List.take_succ_cons, List.take_zero, List.drop_succ_cons, List.drop_zero]
  change wpStill _ _ W.drew (fun a' => wpList _ _ _ _ a' W.drew) _ _
  repeat still_step
  refine wpStill_nil ?_
  refine wpList_put rfl (.tmp 35) (.tmp 36) (.tmp 41) 41 rfl l i (.int .i64 (s.use.pend.length : Int)) rfl rfl rfl ml.drew Try.underlying41 Try.underlying3 ?_
  intro W3 ml3 g3
  have o3 : Only (fun i => i = l) W W3 := ((Only.refl (fun i => i = l) W).drew).grown g3 (fun k hk => by injection hk with hk; exact .inl hk.symm)
  have hs3 : ∀ i, i < W.heap.size → i ≠ l → W3.heap[i]? = W.heap[i]? := fun i hi hne => o3.block i hi hne
  have O3 : Only F w W3 := O2.trans o3 (fun i e => .inl (by rw [e]; exact D2.fl))
  have b3 : Blk W3 d 46 #[.bool s.use.set, .int .i64 s.use.left, .int .i64 s.use.size, .map (some h), .slice A s.use.pend.length c, .map (some l)] := (hs3 d D2.blk.lt (Ne.symm D2.dl)).trans D2.blk
  have mh3 : ∃ f, MapIs W3 h f ∧ HeldOK f s.use.held := by
    obtain ⟨f, m1, m2⟩ := D2.held
    exact ⟨f, m1.same (hs3 h m1.lt D2.hl), m2⟩
  have own3 : W3.ownsRow 0 64 129 (.slice A s.use.pend.length c) s.use.pend.length (s.use.pend.flatMap wrL) :=
    own_same D2.own (fun g hg => hs3 g (D2.lt g (D2.fv g hg)) (fun e => D2.lv (by rw [hg, e])))
  have BB3 : Blk W3 B 64 (wrA (i, x)) := (hs3 B BB.lt (fun e => by have := hBF l D2.fl; omega)).trans BB
  have hgood : (s.write i x).Good := D.good.write hd hi HX.out
  go_wp2_with fail
  have rB : W3.drew.rangeAt B 0 (wrL (i, x)) := Blk.range (w := W3.drew) BB3 0 _ (fun j v hv => by rw [Nat.zero_add]; simpa [wrA] using hv)
  have c4' : W3.cell? ⟨d, 4, none⟩ = some (.slice A s.use.pend.length c) := b3.cell 4
  have c4'' : (W3.alloc (.cells (wrA (i, x)) 64)).cell? ⟨d, 4, none⟩ = some (.slice A s.use.pend.length c) := (b3.alloc _).cell 4
  have hpl' : s.use.pend.length < 1048576 := hpl
  have hwi : (Try.prog.info? 64).map (fun i => (i.zero, i.size, i.bytes)) = some (some (.agg (wrA (0, zeroS))), 129, 136) := by kernel_rfl
  obtain ⟨i0, hi0, hz0, hz1, hz2⟩ := info_parts hwi
  obtain ⟨v5, W5, hrun5, own5, g5, _, hat5⟩ := run_append_own_at (P := Try.prog) (W3.alloc (.cells (wrA (i, x)) 64)).drew 0 44 44 64 i0 _ 129 136 Try.underlying44 hi0 hz0 hz1 hz2
    (by show (wrA (0, zeroS)).size = 129; rw [wrA_size]; rfl) (by omega) (.slice A s.use.pend.length c) s.use.pend.length _ (own3.alloc _) ⟨W3.heap.size, 0, none⟩ 1 1 (wrL (i, x)) (by rw [wrL_len, Nat.one_mul]; simp only [HX.out])
    (fun j u hu => by
      rw [Addr.add_mid, Nat.zero_add]
      have := (Blk.new W3 64 (wrA (i, x))).cell j
      exact this.trans (by simpa [wrA] using hu))
    (wrL_one _) (by simp only [maxLen]; omega) (by omega) (Nat.zero_le _)
  obtain ⟨A5, n5, rfl⟩ := own_slice own5
  have hWl : d < W3.heap.size := b3.lt
  have d5 : Blk W5 d 46 #[.bool s.use.set, .int .i64 s.use.left, .int .i64 s.use.size, .map (some h), .slice A s.use.pend.length c, .map (some l)] := Blk.grown (b3.alloc _).drew g5 (fun e => own_ne (own3) b3 (by decide) e.symm)
  have h5 : ∃ f, MapIs W5 h f ∧ HeldOK f s.use.held := by
    obtain ⟨f, m1, m2⟩ := mh3
    exact ⟨f, (m1.alloc _).drew.grown g5 (fun e => own_ne_map own3 m1 e.symm), m2⟩
  have l5 := (ml3.alloc (.cells (wrA (i, x)) 64)).drew.grown g5 (fun e => own_ne_map own3 ml3 e.symm)
  have O5 : Only F w W5 := (O3.alloc _).drew.grown g5 (fun k hk => .inl (D2.fv k hk))
  have hat6 : ∀ g, (Value.slice A5 (s.use.pend.length + 1) n5).ownBlock = some g → F g ∨ g = W3.heap.size + 1 := fun g hg => by
    rcases hat5 with e | e
    · rw [e] at hg; exact .inl (D2.fv g hg)
    · rw [e] at hg; injection hg with hg; right; rw [← hg]; simp
  have c45 := d5.cell 4
  have f45 := d5.frozen 4
  simp only [List.getElem?_toArray, List.getElem?_cons_succ, List.getElem?_cons_zero] at c45
  have FIN : (∃ F', DiskAt (W5.setCell ⟨d, 4, none⟩ (.slice A5 (s.use.pend.length + 1) n5)) d F' (s.write i x) ∧ Grew w F F') ∧ Only F w (W5.setCell ⟨d, 4, none⟩ (.slice A5 (s.use.pend.length + 1) n5)) := by
    have hne5 : (Value.slice A5 (s.use.pend.length + 1) n5).ownBlock ≠ some d := own_ne own5 d5 (by decide)
    have o6 : Only (fun i => i = d) W5 (W5.setCell ⟨d, 4, none⟩ (.slice A5 (s.use.pend.length + 1) n5)) := (Only.refl (fun i => i = d) W5).setCell (p := ⟨d, 4, none⟩) (.inl rfl) _
    have hsz5 : W3.heap.size + 1 ≤ W5.heap.size := by have := g5.size; simpa using this
    have hs5 : ∀ g, (Value.slice A5 (s.use.pend.length + 1) n5).ownBlock = some g → g < W5.heap.size := fun g hg => (own5.lt g hg).2
    refine ⟨⟨fun b => F b ∨ (w.heap.size ≤ b ∧ b < W5.heap.size), ⟨h, l, .slice A5 (s.use.pend.length + 1) n5, ?_⟩, fun b hb => hb.imp id (fun e => e.1)⟩, O5.setCell (.inl D2.fd) _⟩
    refine ⟨.inl D2.fd, .inl D2.fh, .inl D2.fl, fun g hg => ?_, D2.hl, ?_, ?_, ?_, ?_, ?_, hgood⟩
    · rcases hat6 g hg with e | e
      · exact .inl e
      · exact .inr ⟨by have := O3.size; omega, hs5 g hg⟩
    · exact d5.set_ 4 _
    · obtain ⟨f, m1, m2⟩ := h5
      exact ⟨f, m1.setCell (p := ⟨d, 4, none⟩) (m1.ne_blk d5) _, m2⟩
    · exact ⟨_, l5.setCell (p := ⟨d, 4, none⟩) (l5.ne_blk d5) _, okl.snoc i x⟩
    · have : ((s.write i x).pend.flatMap wrL) = s.use.pend.flatMap wrL ++ wrL (i, x) := by
        show (s.pend ++ [(i, x)]).flatMap wrL = _
        rw [List.flatMap_append]
        simp [St.use]
      rw [this, show (s.write i x).pend.length = s.use.pend.length + 1 by simp [St.write, St.use]]
      exact own_same own5 (fun g hg => o6.block g (hs5 g hg) (fun e => hne5 (by rw [hg, e])))
    · intro b hb
      have e : (W5.setCell ⟨d, 4, none⟩ (.slice A5 (s.use.pend.length + 1) n5)).heap.size = W5.heap.size := by simp [World.setCell]
      rw [e]
      rcases hb with hb | hb
      · exact Nat.lt_of_lt_of_le (D2.lt b hb) (Nat.le_trans o3.size (by omega))
      · exact hb.2
  have RB := Lib.hid rB
  have HR := Lib.hid hrun5
  have HF := Lib.hid FIN
  clear BB BB3 rB hrun5 own5 own3 g5 hat5 hat6 h5 l5 O5 FIN d5 hz0 hz1 hz2 hi0 hwi ml3 mh3 ml D2 D O2 O3 o3 hs3 b3 g3 hv
  refine wp_region_any (by kernel_rfl) ?_
  change wpAny _ _ _ _ _ _ _ W3.drew
  refine wpAny_take (i := 0) (v := .pointer (some ⟨d, 0, none⟩)) rfl (by kernel_rfl) (by kernel_rfl) (by kernel_rfl) (fun _ _ _ h => h) (Or.inl ⟨by rfl, fun w => by go_simp⟩) ?_
  refine wpAny_take (i := 1) (v := .pointer (some ⟨d, 0, none⟩)) rfl (by kernel_rfl) (by kernel_rfl) (by kernel_rfl) (fun _ _ _ h => h) (Or.inl ⟨by rfl, fun w => by go_simp⟩) ?_
  refine wpAny_take (i := 2) (v := .pointer (some ⟨d, 0, none⟩)) rfl (by kernel_rfl) (by kernel_rfl) (by kernel_rfl) (fun _ _ _ h => h) (Or.inl ⟨by rfl, fun w => by go_simp⟩) ?_
  refine wpAny_take (i := 3) (v := .pointer (some ⟨d, 4, none⟩)) rfl (by kernel_rfl) (by kernel_rfl) (by kernel_rfl) (fun _ _ _ h => h) (Or.inl ⟨by rfl, fun w => by go_simp⟩) ?_
  refine wpAny_ready (rs := [4, 5]) (by kernel_rfl) (by simp) ?_
  refine AllReady.cons rfl (fun K hK => ?_) (AllReady.cons rfl (fun K hK => ?_) AllReady.nil)
  · go_simp
    refine hK _ _ ?_
    clear hK K
    refine wpAny_ready (rs := [5]) (by kernel_rfl) (by simp) ?_
    refine AllReady.cons rfl (fun K hK => ?_) AllReady.nil
    refine step_load_wr rfl (.tmp 7) rfl B 0 rfl (i, x) HX.out RB.out ?_
    go_simp
    refine hK _ _ ?_
    clear hK K
    refine wpAny_ready (rs := [6]) (by kernel_rfl) (by simp) ?_
    refine AllReady.cons rfl (fun K hK => ?_) AllReady.nil
    refine step_one_wr rfl (.tmp 47) rfl (i, x) rfl HX.out ?_
    go_simp
    refine hK _ _ ?_
    clear hK K
    refine wpAny_ready (rs := [7]) (by kernel_rfl) (by simp) ?_
    refine AllReady.cons rfl (fun K hK => ?_) AllReady.nil
    refine step_append rfl (.tmp 46) (.tmp 48) 44 rfl _ _ _ rfl rfl HR.out ?_
    go_simp
    refine hK _ _ ?_
    clear hK K
    refine wpAny_ready (rs := [8]) (by kernel_rfl) (by simp) ?_
    refine AllReady.cons rfl (fun K hK => ?_) AllReady.nil
    go_simp
    refine hK _ _ ?_
    clear hK K
    refine wpAny_ready (rs := [9]) (by kernel_rfl) (by simp) ?_
    refine AllReady.cons rfl (fun K hK => ?_) AllReady.nil
    go_simp
    refine hK _ _ ?_
    clear hK K
    refine wpAny_ready (rs := [10]) (by kernel_rfl) (by simp) ?_
    refine AllReady.cons rfl (fun K hK => ?_) AllReady.nil
    go_simp
    refine hK _ _ ?_
    clear hK K
    refine wpAny_done (by kernel_rfl) ?_ _
    go_wp2
    go_ret
    exact ⟨rfl, HF.out⟩
  · refine step_load_wr rfl (.tmp 7) rfl B 0 rfl (i, x) HX.out RB.out ?_
    go_simp
    refine hK _ _ ?_
    clear hK K
    refine wpAny_ready (rs := [4, 6]) (by kernel_rfl) (by simp) ?_
    refine AllReady.cons rfl (fun K hK => ?_) (AllReady.cons rfl (fun K hK => ?_) AllReady.nil)
    · go_simp
      refine hK _ _ ?_
      clear hK K
      refine wpAny_ready (rs := [6]) (by kernel_rfl) (by simp) ?_
      refine AllReady.cons rfl (fun K hK => ?_) AllReady.nil
      refine step_one_wr rfl (.tmp 47) rfl (i, x) rfl HX.out ?_
      go_simp
      refine hK _ _ ?_
      clear hK K
      refine wpAny_ready (rs := [7]) (by kernel_rfl) (by simp) ?_
      refine AllReady.cons rfl (fun K hK => ?_) AllReady.nil
      refine step_append rfl (.tmp 46) (.tmp 48) 44 rfl _ _ _ rfl rfl HR.out ?_
      go_simp
      refine hK _ _ ?_
      clear hK K
      refine wpAny_ready (rs := [8]) (by kernel_rfl) (by simp) ?_
      refine AllReady.cons rfl (fun K hK => ?_) AllReady.nil
      go_simp
      refine hK _ _ ?_
      clear hK K
      refine wpAny_ready (rs := [9]) (by kernel_rfl) (by simp) ?_
      refine AllReady.cons rfl (fun K hK => ?_) AllReady.nil
      go_simp
      refine hK _ _ ?_
      clear hK K
      refine wpAny_ready (rs := [10]) (by kernel_rfl) (by simp) ?_
      refine AllReady.cons rfl (fun K hK => ?_) AllReady.nil
      go_simp
      refine hK _ _ ?_
      clear hK K
      refine wpAny_done (by kernel_rfl) ?_ _
      go_wp2
      go_ret
      exact ⟨rfl, HF.out⟩
    · refine step_one_wr rfl (.tmp 47) rfl (i, x) rfl HX.out ?_
      go_simp
      refine hK _ _ ?_
      clear hK K
      refine wpAny_ready (rs := [4]) (by kernel_rfl) (by simp) ?_
      refine AllReady.cons rfl (fun K hK => ?_) AllReady.nil
      go_simp
      refine hK _ _ ?_
      clear hK K
      refine wpAny_ready (rs := [7]) (by kernel_rfl) (by simp) ?_
      refine AllReady.cons rfl (fun K hK => ?_) AllReady.nil
      refine step_append rfl (.tmp 46) (.tmp 48) 44 rfl _ _ _ rfl rfl HR.out ?_
      go_simp
      refine hK _ _ ?_
      clear hK K
      refine wpAny_ready (rs := [8]) (by kernel_rfl) (by simp) ?_
      refine AllReady.cons rfl (fun K hK => ?_) AllReady.nil
      go_simp
      refine hK _ _ ?_
      clear hK K
      refine wpAny_ready (rs := [9]) (by kernel_rfl) (by simp) ?_
      refine AllReady.cons rfl (fun K hK => ?_) AllReady.nil
      go_simp
      refine hK _ _ ?_
      clear hK K
      refine wpAny_ready (rs := [10]) (by kernel_rfl) (by simp) ?_
      refine AllReady.cons rfl (fun K hK => ?_) AllReady.nil
      go_simp
      refine hK _ _ ?_
      clear hK K
      refine wpAny_done (by kernel_rfl) ?_ _
      go_wp2
      go_ret
      exact ⟨rfl, HF.out⟩

end Go.Proofs.Ytoblkjahohlflaa
