/- Contract of do of package disk over a disk that lies in memory. -/
import Derived.Test.YtoblkjahohlflaaDiskB
import Derived.StillTailTactics
import Derived.Deep.RegionLaw
namespace Go.Proofs.Ytoblkjahohlflaa
open Go.RowKit Go.MapKept Go.Lib
set_option linter.unusedVariables false

section
variable {P : Program} {ops : Array Oper} {rest : List Oper} {o : Oper} {a : Act} {w : World} {Q : Act → Prop}
theorem still_run (hg : o.guard = none) (v : Value) (hrun : (execOp a.eval o).run P w = .ok (.value v) w) (h : wpStill P ops w Q rest (a.put o.dst v)) : wpStill P ops w Q (o :: rest) a := by
  have hw : Region.wanted o (yielded ops a.tmps) = true := by simp [Region.wanted, hg]
  unfold wpStill
  rw [if_pos hw]
  unfold Oper.still
  rw [hrun]
  simp only [Oper.stillUpon]
  exact ⟨trivial, h⟩
theorem still_look (hg : o.guard = none) (m x : Operand) (t : TypeId) (ok : Bool) (hop : o.op = Op.lookup t m x ok) (b : Nat) (k : Int) (v : Value) (hm : a.eval m = .map (some b)) (hx : a.eval x = .int .i64 k)
    (hrun : (Instr.lookup t (.map (some b)) (.int .i64 k) ok).run P w = .ok v w) (h : wpStill P ops w Q rest (a.put o.dst v)) : wpStill P ops w Q (o :: rest) a :=
  still_run hg v (by simp [execOp, hop, hm, hx, hrun, Result.andThen]) h
end

theorem still_load_sec {ops : Array Oper} {rest : List Oper} {o : Oper} {a : Act} {w : World} {Q : Act → Prop} (hg : o.guard = none) (x : Operand) (ho : o.op = .load 61 x) (b f : Nat) (hx : a.eval x = .pointer (some ⟨b, f, none⟩)) (y : ByteArray) (hy : y.size = 128) (hr : w.rangeAt b f (secL y))
    (h : wpStill Try.prog ops w Q rest (a.put o.dst (.agg (secA y)))) : wpStill Try.prog ops w Q (o :: rest) a :=
  still_run hg _ (by
    have := run_loadVar_mid (P := Try.prog) w b f 61 (secL y) _ hr Try.underlying61 rfl (by rw [secL_len, hy]; exact zero_sec.2)
    unfold execOp
    simp only [ho, hx, Instr.loadAt, Instr.sureAddr, Sem.run_bind, Sem.run_pure, Result.andThen_ok, this]
    rfl) h

theorem secA_mix (n : Nat) (a b : ByteArray) (ha : a.size = 128) (hb : b.size = 128) (hn : n ≤ 128) :
    ((secA b).toList.take 0 ++ (secL a).take n ++ (secA b).toList.drop (0 + ((secL a).take n).length)).toArray = secA (mix n a b) := by
  have h1 := secL_len a
  rw [List.length_take, h1, ha, Nat.zero_add, Nat.min_eq_left hn]
  simp only [secA, secL_mix, List.take_zero, List.nil_append, List.toList_toArray]

/-- 'copy(data[:n], w.data[:])'. -/
theorem run_copy_sec (w : World) (ty : TypeId) (g B n cap c2 : Nat) (t t' : TypeId) (x : ByteArray) (hg : Blk w g t (secA x)) (hx : x.size = 128) (p : Int × ByteArray) (hp : p.2.size = 128) (hB : Blk w B t' (wrA p)) (hn : n ≤ 128) :
    (Builtin.copy_ #[68, 68] ty #[.slice (some ⟨g, 0, none⟩) n cap, .slice (some ⟨B, 1, none⟩) 128 c2]).run Try.prog w = .ok (goInt ((secL p.2).take n).length) (w.setRow g (secA (mix n p.2 x))) := by
  have hl := secL_len p.2
  have h1 := run_copy_row (P := Try.prog) w 68 68 ty 5 g 0 n cap ⟨B, 1, none⟩ 128 c2 (secA x) t ((secL p.2).take n) Try.underlying68 (by kernel_rfl) hg
    (by rw [List.length_take, hl, hp, Nat.min_comm])
    (fun j v hv => by
      rw [Addr.add_mid, hB.cell, show 1 + j = j + 1 by omega]
      rw [List.getElem?_take] at hv
      split at hv
      · simpa [wrA, wrL] using hv
      · cases hv)
    (by rw [List.length_take, hl, hp, secA_size, hx]; omega)
    (fun v hv => secL_one _ v (List.mem_of_mem_take hv))
  rw [secA_mix n p.2 x hp hx hn] at h1
  exact h1

theorem step_copy_sec {ops : Array Oper} {o : Oper} {a : Act} {w : World} {K : Act → World → Prop} {Q : Exit → Act → World → Prop} {E : Prop} (hgd : o.guard = none) (dd ss : Operand)
    (ho : o.op = .call { callee := .builtin .copy, args := #[dd, ss], argTypes := #[68, 68] }) (g B n cap c2 : Nat) (hd : a.eval dd = .slice (some ⟨g, 0, none⟩) n cap) (hs : a.eval ss = .slice (some ⟨B, 1, none⟩) 128 c2)
    (t t' : TypeId) (x : ByteArray) (hg : Blk w g t (secA x)) (hx : x.size = 128) (p : Int × ByteArray) (hp : p.2.size = 128) (hB : Blk w B t' (wrA p)) (hn : n ≤ 128)
    (h : K (a.put o.dst (goInt ((secL p.2).take n).length)) (w.setRow g (secA (mix n p.2 x)))) :
    if Region.wanted o (yielded ops a.tmps) = true then Oper.wp Try.prog o a w K Q else E := by
  have hw : Region.wanted o (yielded ops a.tmps) = true := by simp [Region.wanted, hgd]
  rw [if_pos hw]
  have hrun := run_copy_sec w o.type g B n cap c2 t t' x hg hx p hp hB hn
  unfold Oper.wp
  simp only [execOp, ho, resolve, invoke, builtin, Sem.run_bind, Sem.run_pure, Result.andThen_ok, List.map_toArray, List.map_cons, List.map_nil, hd, hs, hrun]
  exact h

set_option maxHeartbeats 1000000 in
theorem do_any {w : World} {d h l : Nat} {v : Value} {F : Nat → Prop} {s : St} (D : DiskIn w d h l v F s) (p : Int × ByteArray) (hp : p.2.size = 128) (hpi : s.has p.1) (n : Nat) (hn : n ≤ 128) :
    Calls Try.prog 28 #[.pointer (some ⟨d, 0, none⟩), .agg (wrA p), .int .i64 (n : Int)] w fun e w' => e = .returned (.tuple #[]) ∧ DiskIn w' d h l v F (s.did (do1 s.held p n)) ∧ Only F w w' := by
  have hv := zero_sec.1
  have c3 := D.c3
  have hdl := D.blk.lt
  have hhl := D.lt h D.fh
  obtain ⟨fh, mh, okh⟩ := D.held
  have hhs := D.good.held p.1
  have BW := Blk.new w 64 (wrA p)
  have oW : Only F w (w.alloc (.cells (wrA p) 64)) := (Only.refl _ _).alloc _
  have DW := D.far (G := fun _ => False) ((Only.refl _ w).alloc (.cells (wrA p) 64)) (fun _ _ h => h)
  have HB := Lib.hid (show (w.alloc (.cells (wrA p) 64)).heap.size = w.heap.size + 1 by simp)
  have hbl := BW.lt
  go_enter Try.func28, Try.ntmps28
  go_wp2_with fail
  clear c3 mh D
  generalize w.alloc (.cells (wrA p) 64) = W at *
  generalize w.heap.size = B at *
  have c3 := DW.c3
  obtain ⟨fh, mh, okh⟩ := DW.held
  have cw : W.cell? ⟨B, 0, none⟩ = some (.int .i64 p.1) := BW.cell 0
  have l1 := mh.drew.run_look (P := Try.prog) Try.underlying40 Try.underlying3 (hv _) p.1 false
  have l2 := (mh.alloc (.cells (secA zeroS) 61)).drew.run_look (P := Try.prog) Try.underlying40 Try.underlying3 (hv _) p.1 false
  rw [okh p.1] at l1 l2
  have hst : (storeCells ⟨W.heap.size, 0, none⟩ (secA (s.held p.1)).toList 0).run Try.prog (W.alloc (.cells (secA zeroS) 61)).drew = .ok () (W.alloc (.cells (secA (s.held p.1)) 61)).drew :=
    run_storeCells_new (P := Try.prog) W.drew 61 (secA zeroS) (secA (s.held p.1)) (by rw [secA_size, hhs]; exact zero_sec.2) (by rw [secA_size, secA_size, hhs, zeroS_size]) (secA_one _)
  have hz : (secA (s.held p.1)).size = 128 := by rw [secA_size, hhs]
  have hdW := DW.blk.lt
  have c3a : (W.alloc (.cells (secA zeroS) 61)).cell? ⟨d, 3, none⟩ = some (.map (some h)) := (DW.blk.alloc _).cell 3
  have cwa : (W.alloc (.cells (secA zeroS) 61)).cell? ⟨B, 0, none⟩ = some (.int .i64 p.1) := (BW.alloc _).cell 0
  go_region
  have D2 := DW.far (G := fun _ => False) (((Only.refl _ W).alloc (.cells (secA (s.held p.1)) 61)).drew) (fun _ _ h => h)
  have O2 : Only F w (W.alloc (.cells (secA (s.held p.1)) 61)).drew := (oW.alloc _).drew
  have B2 : Blk (W.alloc (.cells (secA (s.held p.1)) 61)).drew B 64 (wrA p) := BW.alloc _
  have C2 : Blk (W.alloc (.cells (secA (s.held p.1)) 61)).drew W.heap.size 61 (secA (s.held p.1)) := Blk.new W _ _
  have hBC : B ≠ W.heap.size := Nat.ne_of_lt hbl
  have hFC : ∀ b, F b → b ≠ W.heap.size := fun b hb => Nat.ne_of_lt (DW.lt b hb)
  have hwC : w.heap.size ≤ W.heap.size := oW.size
  clear l1 l2 hst c3 c3a cw cwa BW DW oW mh okh
  generalize (W.alloc (.cells (secA (s.held p.1)) 61)).drew = W2 at *
  generalize W.heap.size = C at *
  have z1 : (0 : Int) ≤ (n : Int) := by omega
  have z2 : (n : Int) ≤ 128 := by omega
  go_wp2_with fail
  go_region_law (refine step_copy_sec rfl (.tmp 15) (.tmp 17) rfl C B n 128 128 (by rfl) (by rfl) _ _ (s.held p.1) C2 hhs p hp B2 hn ?_)
  have hms := mix_size n p.2 (s.held p.1) hp hhs
  have O3 : Only F w (W2.drew.setRow C (secA (mix n p.2 (s.held p.1)))) := O2.drew.setRow (.inr hwC) _
  have D3 := D2.far (G := fun b => b = C) (((Only.refl (fun b => b = C) W2).drew).setRow (g := C) (.inl rfl) (secA (mix n p.2 (s.held p.1)))) hFC
  have B3 : Blk (W2.drew.setRow C (secA (mix n p.2 (s.held p.1)))) B 64 (wrA p) := (setRow_other _ _ _ _ hBC).trans B2
  have C3 : Blk (W2.drew.setRow C (secA (mix n p.2 (s.held p.1)))) C 61 (secA (mix n p.2 (s.held p.1))) := setRow_heap _ _ _ _ _ _ C2
  clear O2 D2 B2 C2 z1 z2
  generalize W2.drew.setRow C (secA (mix n p.2 (s.held p.1))) = W3 at *
  have hdo : s.did (do1 s.held p n) = s.did (fun i => if i = p.1 then mix n p.2 (s.held p.1) else s.held i) := by
    unfold do1
    congr 1
    funext j
    split
    · rename_i e; rw [e]
    · rfl
  generalize mix n p.2 (s.held p.1) = m at *
  have c3 := D3.c3
  have cw : W3.cell? ⟨B, 0, none⟩ = some (.int .i64 p.1) := B3.cell 0
  have rg : W3.drew.rangeAt C 0 (secL m) := Blk.range (w := W3.drew) C3 0 _ (fun j v hv => by rw [Nat.zero_add]; simpa [secA] using hv)
  have HDO := Lib.hid hdo
  clear hdo
  go_wp2_with fail
  refine wp_region_still_tail 7 (by kernel_rfl) (by kernel_rfl) ?_
  simp only [List.take_succ_cons, List.take_zero, List.drop_succ_cons, List.drop_zero]
  change wpStill _ _ W3.drew (fun a' => wpList _ _ _ _ a' W3.drew) _ _
  repeat (first | (with_reducible refine still_load_sec rfl (.tmp 6) rfl C 0 rfl m hms rg ?_) | still_step)
  refine wpStill_nil ?_
  obtain ⟨fh, mh, okh⟩ := D3.held
  refine wpList_put rfl (.tmp 22) (.tmp 24) (.tmp 25) 40 rfl h p.1 (secV m) rfl rfl rfl mh.drew Try.underlying40 Try.underlying3 ?_
  intro W4 mh4 g4
  go_wp2
  go_end0
  have o4 : Only (fun i => i = h) W3 W4 := ((Only.refl (fun i => i = h) W3).drew).grown g4 (fun k hk => by injection hk with hk; exact .inl hk.symm)
  have hs : ∀ i, i < W3.heap.size → i ≠ h → W4.heap[i]? = W3.heap[i]? := fun i hi hne => o4.block i hi hne
  refine ⟨rfl, ?_, O3.trans o4 (fun i e => .inl (by rw [e]; exact D3.fh))⟩
  rw [HDO.out]
  refine ⟨D3.fd, D3.fh, D3.fl, D3.fv, D3.hl, (hs d D3.blk.lt (Ne.symm D3.dh)).trans D3.blk, ⟨_, mh4, okh.put p.1 m⟩, ?_, ?_, fun b hb => Nat.lt_of_lt_of_le (D3.lt b hb) o4.size, ?_⟩
  · obtain ⟨f, m1, m2⟩ := D3.last
    exact ⟨f, m1.same (hs l m1.lt (Ne.symm D3.hl)), m2⟩
  · exact own_same D3.own (fun g hg => hs g (D3.lt g (D3.fv g hg)) (fun e => D3.hv (by rw [hg, e])))
  · refine D3.good.did (fun i => ?_)
    show (if i = p.1 then m else s.held i).size = 128
    split
    · exact hms
    · exact D3.good.held i

end Go.Proofs.Ytoblkjahohlflaa
